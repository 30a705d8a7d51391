/- Calls do what the plain functions say. -/
import Derived.Test.YtbhnaaingkbeiaaSra
namespace Go.Proofs.Ytbhnaaingkbeiaa
open Go.RowKit
namespace Ev
set_option linter.unusedVariables false
set_option maxRecDepth 100000
noncomputable def rset_NewV (a0 : Int) : rset_NewR → Value
 | .r0 => Value.tuple #[Value.pointer none, vi (1 : Int)]
 | .r1 => Value.tuple #[vp 0 0, vq]
noncomputable def rset_NewPo (a0 : Int) : rset_NewR → List (Option AObj)
 | .r0 => []
 | .r1 => [some (.cells [vi a0, vn, Value.int .u32 (0 : Int), Value.int .i32 (0 : Int), Value.int .u32 (0 : Int), Value.map none] 64)]

theorem rset_New_fx (a0 : Int) (N : Nat) : Fx Try.prog ext_Sr Try.f6 [] #[vi a0] (rset_NewV a0) (rset_NewPo a0) (rset_New a0 N) := by
 unfold rset_New
 refine fx_ite (fun g0 => ?_) (fun g0 => ?_)
 ·
  exact fx_fin (r := (.r0 : rset_NewR)) (fu := 4000) (orc := (orcw [(0, true)] [] [] [] [])) (live := []) (u := Value.tuple #[Value.pointer none, vi (1 : Int)]) (bl := []) (ob := [((decide (a0 < (1 : Int))), true)]) (by kernel_rfl) (oY obs_nil) rfl (by decide) (by rfl) rr trivial
 ·
  refine fx_ite (fun g1 => ?_) (fun g1 => ?_)
  ·
   exact fx_fin (r := (.r0 : rset_NewR)) (fu := 4000) (orc := (orcw [(0, false), (1, true)] [] [] [] [])) (live := []) (u := Value.tuple #[Value.pointer none, vi (1 : Int)]) (bl := []) (ob := [((decide (a0 > (4096 : Int))), true), ((decide (a0 < (1 : Int))), false)]) (by kernel_rfl) (oY <| oN obs_nil) rfl (by decide) (by rfl) rr trivial
  ·
   exact fx_fin (r := (.r1 : rset_NewR)) (fu := 4000) (orc := (orcw [(0, false), (1, false)] [] [] [] [])) (live := [0]) (u := Value.tuple #[vp 0 0, vq]) (bl := [some (.cells [vi a0, vn, Value.int .u32 (0 : Int), Value.int .i32 (0 : Int), Value.int .u32 (0 : Int), Value.map none] 64)]) (ob := [((decide (a0 > (4096 : Int))), false), ((decide (a0 < (1 : Int))), false)]) (by kernel_rfl) (oN <| oN obs_nil) rfl (by decide) (by rfl) rr ⟨⟨rfl, ⟨[], by rfl⟩, by rfl⟩, trivial⟩

theorem rset_New_spec (a0 : Int) (N : Nat) (r : rset_NewR) (h : rset_New a0 N = some r) : LSpec Try.prog 6 #[vi a0] [] (rset_NewV a0 r) (rset_NewPo a0 r) :=
 fx_spec fit_Sr Try.func6 (by kernel_rfl) (by kernel_rfl) (fun r => by cases r <;> exact le_far _ rfl) (rset_New_fx a0 N) h

noncomputable def rset_NewT0 (a0 : Int) (n : Nat) : Told := .call [] (Value.tuple #[Value.pointer none, vi (1 : Int)]) [] 0
def rset_NewP0 (A : Array Value) (a0 : Int) (n : Nat) : Prop := CallSpec Try.prog 6 A [] (Value.tuple #[Value.pointer none, vi (1 : Int)]) [] n 0

theorem rset_NewC0 (A : Array Value) (a0 : Int) (N : Nat) (h : rset_New a0 N = some (.r0)) (n : Nat) (hA : A = #[vi a0]) (hnd : ([] : List Nat).Nodup) (hlt : ∀ k ∈ ([] : List Nat), k < n) : rset_NewP0 A a0  n :=
 cs_args hA (LSpec.callL (show LSpec Try.prog 6 #[vi a0] [] (Value.tuple #[Value.pointer none, vi (1 : Int)]) [] from rset_New_spec a0 N _ h) [] n [] rfl hnd hlt (show 0 ≤ 0 from by decide) (show ∀ j ∈ ([] : List Nat), j < 0 from by decide) (by rfl) trivial (by rfl) trivial trivial rfl rfl rfl rfl rfl)

noncomputable def rset_NewT1 (a0 : Int) (n : Nat) : Told := .call [] (Value.tuple #[vp n 0, vq]) [(n, some (.cells [vi a0, vn, Value.int .u32 (0 : Int), Value.int .i32 (0 : Int), Value.int .u32 (0 : Int), Value.map none] 64))] 1
def rset_NewP1 (A : Array Value) (a0 : Int) (n : Nat) : Prop := CallSpec Try.prog 6 A [] (Value.tuple #[vp n 0, vq]) [(n, some (.cells [vi a0, vn, Value.int .u32 (0 : Int), Value.int .i32 (0 : Int), Value.int .u32 (0 : Int), Value.map none] 64))] n 1

theorem rset_NewC1 (A : Array Value) (a0 : Int) (N : Nat) (h : rset_New a0 N = some (.r1)) (n : Nat) (hA : A = #[vi a0]) (hnd : ([] : List Nat).Nodup) (hlt : ∀ k ∈ ([] : List Nat), k < n) : rset_NewP1 A a0  n :=
 cs_args hA (LSpec.callL (show LSpec Try.prog 6 #[vi a0] [] (Value.tuple #[vp 0 0, vq]) [some (.cells [vi a0, vn, Value.int .u32 (0 : Int), Value.int .i32 (0 : Int), Value.int .u32 (0 : Int), Value.map none] 64)] from rset_New_spec a0 N _ h) [] n [0] rfl hnd hlt (show 0 ≤ 1 from by decide) (show ∀ j ∈ ([0] : List Nat), j < 1 from by decide) (by rfl) trivial (by rfl) ⟨rfl, trivial⟩ ⟨(by decide), trivial⟩ rfl rfl rfl rfl (cons_eq (pair_eq rfl (some_eq rfl)) rfl))

noncomputable def ref06_NewV (a0 : Int) : ref06_NewR → Value
 | .r0 w0 w1 => Value.tuple #[Value.agg #[vi w0, vn], vi w1]
noncomputable def ref06_NewPo (a0 : Int) : ref06_NewR → List (Option AObj)
 | .r0 w0 w1 => []

theorem ref06_New_fx (a0 : Int) (N : Nat) : Fx Try.prog ext_Sr Try.f7 [] #[vi a0] (ref06_NewV a0) (ref06_NewPo a0) (ref06_New a0 N) := by
 unfold ref06_New
 refine fx_ite (fun g0 => ?_) (fun g0 => ?_)
 ·
  exact fx_fin (r := (.r0 ((0 : Int)) ((1 : Int)) : ref06_NewR)) (fu := 4000) (orc := (orcw [(0, true)] [] [] [] [])) (live := []) (u := Value.tuple #[Value.agg #[vq, vn], vi (1 : Int)]) (bl := []) (ob := [((decide (a0 < (1 : Int))), true)]) (by kernel_rfl) (oY obs_nil) rfl (by decide) (by rfl) rr trivial
 ·
  refine fx_ite (fun g1 => ?_) (fun g1 => ?_)
  ·
   exact fx_fin (r := (.r0 ((0 : Int)) ((1 : Int)) : ref06_NewR)) (fu := 4000) (orc := (orcw [(0, false), (1, true)] [] [] [] [])) (live := []) (u := Value.tuple #[Value.agg #[vq, vn], vi (1 : Int)]) (bl := []) (ob := [((decide (a0 > (4096 : Int))), true), ((decide (a0 < (1 : Int))), false)]) (by kernel_rfl) (oY <| oN obs_nil) rfl (by decide) (by rfl) rr trivial
  ·
   exact fx_fin (r := (.r0 (a0) ((0 : Int)) : ref06_NewR)) (fu := 4000) (orc := (orcw [(0, false), (1, false)] [] [] [] [])) (live := []) (u := Value.tuple #[Value.agg #[vi a0, vn], vq]) (bl := []) (ob := [((decide (a0 > (4096 : Int))), false), ((decide (a0 < (1 : Int))), false)]) (by kernel_rfl) (oN <| oN obs_nil) rfl (by decide) (by rfl) rr trivial

theorem ref06_New_spec (a0 : Int) (N : Nat) (r : ref06_NewR) (h : ref06_New a0 N = some r) : LSpec Try.prog 7 #[vi a0] [] (ref06_NewV a0 r) (ref06_NewPo a0 r) :=
 fx_spec fit_Sr Try.func7 (by kernel_rfl) (by kernel_rfl) (fun r => by cases r <;> exact le_far _ rfl) (ref06_New_fx a0 N) h

noncomputable def ref06_NewT0 (a0 w0 w1 : Int) (n : Nat) : Told := .call [] (Value.tuple #[Value.agg #[vi w0, vn], vi w1]) [] 0
def ref06_NewP0 (A : Array Value) (a0 w0 w1 : Int) (n : Nat) : Prop := CallSpec Try.prog 7 A [] (Value.tuple #[Value.agg #[vi w0, vn], vi w1]) [] n 0

theorem ref06_NewC0 (A : Array Value) (a0 w0 w1 : Int) (N : Nat) (h : ref06_New a0 N = some (.r0 w0 w1)) (n : Nat) (hA : A = #[vi a0]) (hnd : ([] : List Nat).Nodup) (hlt : ∀ k ∈ ([] : List Nat), k < n) : ref06_NewP0 A a0 w0 w1  n :=
 cs_args hA (LSpec.callL (show LSpec Try.prog 7 #[vi a0] [] (Value.tuple #[Value.agg #[vi w0, vn], vi w1]) [] from ref06_New_spec a0 N _ h) [] n [] rfl hnd hlt (show 0 ≤ 0 from by decide) (show ∀ j ∈ ([] : List Nat), j < 0 from by decide) (by rfl) trivial (by rfl) trivial trivial rfl rfl rfl rfl rfl)

noncomputable def rset_Rset_ForkV (a0 : Int) : rset_Rset_ForkR → Value
 | .r0 => vp 1 0
noncomputable def rset_Rset_ForkPo (a0 : Int) : rset_Rset_ForkR → List (Option AObj)
 | .r0 => [some (.cells [vi a0, vn, Value.int .u32 (0 : Int), Value.int .i32 (0 : Int), Value.int .u32 (0 : Int), Value.map none] 64), some (.cells [vi a0, vn, Value.int .u32 (0 : Int), Value.int .i32 (0 : Int), Value.int .u32 (0 : Int), Value.map none] 64)]

theorem rset_Rset_Fork_fx (a0 : Int) (N : Nat) : Fx Try.prog ext_Sr Try.f10 [.cells [vi a0, vn, Value.int .u32 (0 : Int), Value.int .i32 (0 : Int), Value.int .u32 (0 : Int), Value.map none] 64] #[vp 0 0] (rset_Rset_ForkV a0) (rset_Rset_ForkPo a0) (rset_Rset_Fork a0 N) := by
 unfold rset_Rset_Fork
 refine fx_ite (fun g0 => ?_) (fun g0 => ?_)
 ·
  exact fx_fin (r := (.r0 : rset_Rset_ForkR)) (fu := 4000) (orc := (orcw [(1, true), (4, true)] [] [] [] [])) (live := [0, 1]) (u := vp 1 0) (bl := [some (.cells [vi a0, vn, Value.int .u32 (0 : Int), Value.int .i32 (0 : Int), Value.int .u32 (0 : Int), Value.map none] 64), some (.cells [vi a0, vn, Value.int .u32 (0 : Int), Value.int .i32 (0 : Int), Value.int .u32 (0 : Int), Value.map none] 64)]) (ob := [((decide (a0 > (0 : Int))), true), ((decide (a0 > (0 : Int))), true)]) (by kernel_rfl) (oY <| oY obs_nil) rfl (by decide) (by rfl) rr ⟨⟨rfl, ⟨[], by rfl⟩, by rfl⟩, ⟨⟨rfl, ⟨[], by rfl⟩, by rfl⟩, trivial⟩⟩
 ·
  exact fx_none

theorem rset_Rset_Fork_spec (a0 : Int) (N : Nat) (r : rset_Rset_ForkR) (h : rset_Rset_Fork a0 N = some r) : LSpec Try.prog 10 #[vp 0 0] [.cells [vi a0, vn, Value.int .u32 (0 : Int), Value.int .i32 (0 : Int), Value.int .u32 (0 : Int), Value.map none] 64] (rset_Rset_ForkV a0 r) (rset_Rset_ForkPo a0 r) :=
 fx_spec fit_Sr Try.func10 (by kernel_rfl) (by kernel_rfl) (fun r => by cases r <;> exact le_far _ rfl) (rset_Rset_Fork_fx a0 N) h

noncomputable def rset_Rset_ForkT0 (a0 : Int) (k0 n : Nat) : Told := .call [(k0, .cells [vi a0, vn, Value.int .u32 (0 : Int), Value.int .i32 (0 : Int), Value.int .u32 (0 : Int), Value.map none] 64)] (vp n 0) [(n, some (.cells [vi a0, vn, Value.int .u32 (0 : Int), Value.int .i32 (0 : Int), Value.int .u32 (0 : Int), Value.map none] 64))] 1
def rset_Rset_ForkP0 (A : Array Value) (a0 : Int) (k0 n : Nat) : Prop := CallSpec Try.prog 10 A [(k0, .cells [vi a0, vn, Value.int .u32 (0 : Int), Value.int .i32 (0 : Int), Value.int .u32 (0 : Int), Value.map none] 64)] (vp n 0) [(n, some (.cells [vi a0, vn, Value.int .u32 (0 : Int), Value.int .i32 (0 : Int), Value.int .u32 (0 : Int), Value.map none] 64))] n 1

theorem rset_Rset_ForkC0 (A : Array Value) (a0 : Int) (N : Nat) (h : rset_Rset_Fork a0 N = some (.r0)) (k0 n : Nat) (hA : A = #[vp k0 0]) (hnd : ([k0] : List Nat).Nodup) (hlt : ∀ k ∈ ([k0] : List Nat), k < n) : rset_Rset_ForkP0 A a0 k0 n :=
 cs_args hA (LSpec.callL (show LSpec Try.prog 10 #[vp 0 0] [.cells [vi a0, vn, Value.int .u32 (0 : Int), Value.int .i32 (0 : Int), Value.int .u32 (0 : Int), Value.map none] 64] (vp 1 0) [some (.cells [vi a0, vn, Value.int .u32 (0 : Int), Value.int .i32 (0 : Int), Value.int .u32 (0 : Int), Value.map none] 64), some (.cells [vi a0, vn, Value.int .u32 (0 : Int), Value.int .i32 (0 : Int), Value.int .u32 (0 : Int), Value.map none] 64)] from rset_Rset_Fork_spec a0 N _ h) [k0] n [1] rfl hnd hlt (show 1 ≤ 2 from by decide) (show ∀ j ∈ ([1] : List Nat), j < 2 from by decide) (by rfl) ⟨rfl, trivial⟩ (by rfl) ⟨rfl, ⟨rfl, trivial⟩⟩ ⟨.inr rfl, ⟨(by decide), trivial⟩⟩ rfl rfl rfl (cons_eq (pair_eq rfl rfl) rfl) (cons_eq (pair_eq rfl (some_eq rfl)) rfl))

noncomputable def rset_Rset_orderV (a0 : Int) : rset_Rset_orderR → Value
 | .r0 => vtt
noncomputable def rset_Rset_orderPo (a0 : Int) : rset_Rset_orderR → List (Option AObj)
 | .r0 => [some (.cells [vi a0, vn, Value.int .u32 (0 : Int), Value.int .i32 (1 : Int), Value.int .u32 (0 : Int), Value.map (some 1)] 64), some (.ro (mapV ([] : List R_ii)) true)]

def rset_Rset_orderHd : rset_Rset_orderX → Nat
 | .h1m0 => 1
noncomputable def rset_Rset_orderL (a0 : Int) : rset_Rset_orderX → List (Nat × Value)
 | .h1m0 => [(0, vp 0 0), (11, vn), (12, vq), (13, vq)]
noncomputable def rset_Rset_orderH (a0 : Int) : rset_Rset_orderX → List (Option AObj)
 | .h1m0 => [some (.cells [vi a0, vn, Value.int .u32 (0 : Int), Value.int .i32 (1 : Int), Value.int .u32 (0 : Int), Value.map (some 1)] 64), some (.ro (mapV ([] : List R_ii)) true)]

noncomputable def rset_Rset_orderC : Nat → Code × List Kont
 | 1 => headOf [1, 1, 3] (bodyC Try.f23) []
 | _ => (.skip, [])
def rset_Rset_orderIL : Nat → Bool
 | 1 => true
 | _ => true
noncomputable def rset_Rset_orderK (i : Nat) : List Kont := match rset_Rset_orderIL i with | true => .rnd i :: (rset_Rset_orderC i).2 | false => (rset_Rset_orderC i).2

noncomputable def rset_Rset_orderM (a0 : Int) (N : Nat) : Mach := ⟨Try.f23, [.cells [vi a0, vn, Value.int .u32 (0 : Int), Value.int .i32 (1 : Int), Value.int .u32 (0 : Int), Value.map none] 64], rset_Rset_orderX, rset_Rset_orderR, rset_Rset_orderStep a0 N, rset_Rset_orderHd, rset_Rset_orderC, rset_Rset_orderIL, rset_Rset_orderL a0, rset_Rset_orderH a0, rset_Rset_orderV a0, rset_Rset_orderPo a0⟩

theorem rset_Rset_order_ok1_0 (a0 : Int) (N : Nat) : (rset_Rset_orderM a0 N).Ok Try.prog ext_Sr (.h1m0 : rset_Rset_orderX) (rset_Rset_orderStep a0 N (.h1m0 : rset_Rset_orderX)) := by
 show (rset_Rset_orderM a0 N).Ok Try.prog ext_Sr (.h1m0 : rset_Rset_orderX) (rset_Rset_order_h1m0 a0 N)
 unfold rset_Rset_order_h1m0
 exact Mach.ok_fin (M := rset_Rset_orderM a0 N) (cd := 1000000) (cm := 0) (r := (.r0 : rset_Rset_orderR)) (fu := 4000) (orc := (orcw [] [] [] [] [])) (live := [0, 1]) (u := vtt) (bl := [some (.cells [vi a0, vn, Value.int .u32 (0 : Int), Value.int .i32 (1 : Int), Value.int .u32 (0 : Int), Value.map (some 1)] 64), some (.ro (mapV ([] : List R_ii)) true)]) (ob := []) (fun gv => by kernel_rfl) obs_nil rfl (by decide) (by rfl) rr ⟨⟨rfl, ⟨[], by rfl⟩, by rfl⟩, ⟨(show mapV ([] : List R_ii) = mapV ([] : List R_ii) from rfl), trivial⟩⟩

theorem rset_Rset_order_en (a0 : Int) (N : Nat) : (rset_Rset_orderM a0 N).Enter Try.prog ext_Sr #[vp 0 0] (rset_Rset_orderIn a0 N) := by
 unfold rset_Rset_orderIn
 exact Mach.en_head (bK := rset_Rset_orderC 1) (M := rset_Rset_orderM a0 N) (cd := 1000000) (cm := 0) (y := (.h1m0 : rset_Rset_orderX)) (fu := 4000) (orc := (orcw [] [] [] [] [])) (live := [0, 1]) (tv := [some (vp 0 0), some (vn), some (vq), some (vq)]) (bl := [some (.cells [vi a0, vn, Value.int .u32 (0 : Int), Value.int .i32 (1 : Int), Value.int .u32 (0 : Int), Value.map (some 1)] 64), some (.ro (mapV ([] : List R_ii)) true)]) (ob := []) rfl rfl (show rids (rset_Rset_orderC 1).2 = [] from rfl) (by kernel_rfl) obs_nil rfl (by decide) (by rfl) ⟨rr, ⟨rr, ⟨rr, ⟨rr, trivial⟩⟩⟩⟩ ⟨⟨rfl, ⟨[], by rfl⟩, by rfl⟩, ⟨(show mapV ([] : List R_ii) = mapV ([] : List R_ii) from rfl), trivial⟩⟩

theorem rset_Rset_order_spec (a0 : Int) (N : Nat) (r : rset_Rset_orderR) (h : rset_Rset_order a0 N = some r) : LSpec Try.prog 23 #[vp 0 0] [.cells [vi a0, vn, Value.int .u32 (0 : Int), Value.int .i32 (1 : Int), Value.int .u32 (0 : Int), Value.map none] 64] (rset_Rset_orderV a0 r) (rset_Rset_orderPo a0 r) :=
 Mach.spec fit_Sr (rset_Rset_orderM a0 N) Try.func23 (by kernel_rfl) (by kernel_rfl) (fun x => by cases x <;> exact le_far _ rfl) (fun r => by cases r <;> exact le_far _ rfl) (fun x => by
  cases x with
  | h1m0 => exact fun _ => (show ¬ (1 ∈ rids (rset_Rset_orderC 1).2) from by decide +kernel)
  ) (fun x => (show (rset_Rset_orderM a0 N).Ok Try.prog ext_Sr x (rset_Rset_orderStep a0 N x) from by
  cases x with
  | h1m0 => exact rset_Rset_order_ok1_0 a0 N
  )) (rset_Rset_order_en a0 N) (n := N) h

noncomputable def rset_Rset_orderT0 (a0 : Int) (k0 n : Nat) : Told := .call [(k0, .cells [vi a0, vn, Value.int .u32 (0 : Int), Value.int .i32 (1 : Int), Value.int .u32 (0 : Int), Value.map none] 64)] (vtt) [(k0, some (.cells [vi a0, vn, Value.int .u32 (0 : Int), Value.int .i32 (1 : Int), Value.int .u32 (0 : Int), Value.map (some n)] 64)), (n, some (.ro (mapV ([] : List R_ii)) true))] 1
def rset_Rset_orderP0 (A : Array Value) (a0 : Int) (k0 n : Nat) : Prop := CallSpec Try.prog 23 A [(k0, .cells [vi a0, vn, Value.int .u32 (0 : Int), Value.int .i32 (1 : Int), Value.int .u32 (0 : Int), Value.map none] 64)] (vtt) [(k0, some (.cells [vi a0, vn, Value.int .u32 (0 : Int), Value.int .i32 (1 : Int), Value.int .u32 (0 : Int), Value.map (some n)] 64)), (n, some (.ro (mapV ([] : List R_ii)) true))] n 1

theorem rset_Rset_orderC0 (A : Array Value) (a0 : Int) (N : Nat) (h : rset_Rset_order a0 N = some (.r0)) (k0 n : Nat) (hA : A = #[vp k0 0]) (hnd : ([k0] : List Nat).Nodup) (hlt : ∀ k ∈ ([k0] : List Nat), k < n) : rset_Rset_orderP0 A a0 k0 n :=
 cs_args hA (LSpec.callL (show LSpec Try.prog 23 #[vp 0 0] [.cells [vi a0, vn, Value.int .u32 (0 : Int), Value.int .i32 (1 : Int), Value.int .u32 (0 : Int), Value.map none] 64] (vtt) [some (.cells [vi a0, vn, Value.int .u32 (0 : Int), Value.int .i32 (1 : Int), Value.int .u32 (0 : Int), Value.map (some 1)] 64), some (.ro (mapV ([] : List R_ii)) true)] from rset_Rset_order_spec a0 N _ h) [k0] n [0, 1] rfl hnd hlt (show 1 ≤ 2 from by decide) (show ∀ j ∈ ([0, 1] : List Nat), j < 2 from by decide) (by rfl) ⟨rfl, trivial⟩ (by rfl) ⟨rfl, ⟨rfl, trivial⟩⟩ ⟨.inl (by decide), ⟨(by decide), trivial⟩⟩ rfl rfl rfl (cons_eq (pair_eq rfl rfl) rfl) (cons_eq (pair_eq rfl (some_eq rfl)) (cons_eq (pair_eq rfl (some_eq rfl)) rfl)))

noncomputable def rset_Rset_AddV (a0 a1 a2 : Int) : rset_Rset_AddR → Value
 | .r0 => vi (1 : Int)
 | .r1 => vq
noncomputable def rset_Rset_AddPo (a0 a1 a2 : Int) : rset_Rset_AddR → List (Option AObj)
 | .r0 => [some (.cells [vi a2, vn, Value.int .u32 (0 : Int), Value.int .i32 (0 : Int), Value.int .u32 (0 : Int), Value.map none] 64)]
 | .r1 => [some (.cells [vi a2, vs 1 0 1 1, Value.int .u32 (1 : Int), Value.int .i32 (0 : Int), Value.int .u32 (0 : Int), Value.map (some 2)] 64), some (.cells (rowV E_ii ([(⟨a0, a1⟩ : R_ii)] : List R_ii)) 42), some (.ro (mapV (mPut ([] : List R_ii) a0 (0 : Int))) true)]

theorem rset_Rset_Add_fx (a0 a1 a2 : Int) (N : Nat) : Fx Try.prog ext_Sr Try.f11 [.cells [vi a2, vn, Value.int .u32 (0 : Int), Value.int .i32 (0 : Int), Value.int .u32 (0 : Int), Value.map none] 64] #[vp 0 0, vi a0, vi a1] (rset_Rset_AddV a0 a1 a2) (rset_Rset_AddPo a0 a1 a2) (rset_Rset_Add a0 a1 a2 N) := by
 unfold rset_Rset_Add
 refine fx_ite (fun g0 => ?_) (fun g0 => ?_)
 ·
  refine fx_ite (fun g1 => ?_) (fun g1 => ?_)
  ·
   exact fx_fin (r := (.r0 : rset_Rset_AddR)) (fu := 4000) (orc := (orcw [(1, true), (3, true)] [] [] [] [])) (live := [0]) (u := vi (1 : Int)) (bl := [some (.cells [vi a2, vn, Value.int .u32 (0 : Int), Value.int .i32 (0 : Int), Value.int .u32 (0 : Int), Value.map none] 64)]) (ob := [((decide (a0 < (0 : Int))), true), ((decide (a2 > (0 : Int))), true)]) (by kernel_rfl) (oY <| oY obs_nil) rfl (by decide) (by rfl) rr ⟨⟨rfl, ⟨[], by rfl⟩, by rfl⟩, trivial⟩
  ·
   refine fx_ite (fun g2 => ?_) (fun g2 => ?_)
   ·
    exact fx_fin (r := (.r0 : rset_Rset_AddR)) (fu := 4000) (orc := (orcw [(1, true), (3, false), (4, true)] [] [] [] [])) (live := [0]) (u := vi (1 : Int)) (bl := [some (.cells [vi a2, vn, Value.int .u32 (0 : Int), Value.int .i32 (0 : Int), Value.int .u32 (0 : Int), Value.map none] 64)]) (ob := [((decide (a0 ≥ (1024 : Int))), true), ((decide (a0 < (0 : Int))), false), ((decide (a2 > (0 : Int))), true)]) (by kernel_rfl) (oY <| oN <| oY obs_nil) rfl (by decide) (by rfl) rr ⟨⟨rfl, ⟨[], by rfl⟩, by rfl⟩, trivial⟩
   ·
    refine fx_ite (fun g3 => ?_) (fun g3 => ?_)
    ·
     exact fx_fin (r := (.r0 : rset_Rset_AddR)) (fu := 4000) (orc := (orcw [(1, true), (3, false), (4, false), (5, true)] [] [] [] [])) (live := [0]) (u := vi (1 : Int)) (bl := [some (.cells [vi a2, vn, Value.int .u32 (0 : Int), Value.int .i32 (0 : Int), Value.int .u32 (0 : Int), Value.map none] 64)]) (ob := [((decide (a1 < (0 : Int))), true), ((decide (a0 ≥ (1024 : Int))), false), ((decide (a0 < (0 : Int))), false), ((decide (a2 > (0 : Int))), true)]) (by kernel_rfl) (oY <| oN <| oN <| oY obs_nil) rfl (by decide) (by rfl) rr ⟨⟨rfl, ⟨[], by rfl⟩, by rfl⟩, trivial⟩
    ·
     refine fx_ite (fun g4 => ?_) (fun g4 => ?_)
     ·
      exact fx_fin (r := (.r0 : rset_Rset_AddR)) (fu := 4000) (orc := (orcw [(1, true), (3, false), (4, false), (5, false), (6, true)] [] [] [] [])) (live := [0]) (u := vi (1 : Int)) (bl := [some (.cells [vi a2, vn, Value.int .u32 (0 : Int), Value.int .i32 (0 : Int), Value.int .u32 (0 : Int), Value.map none] 64)]) (ob := [((decide (a1 > (2199023255552 : Int))), true), ((decide (a1 < (0 : Int))), false), ((decide (a0 ≥ (1024 : Int))), false), ((decide (a0 < (0 : Int))), false), ((decide (a2 > (0 : Int))), true)]) (by kernel_rfl) (oY <| oN <| oN <| oN <| oY obs_nil) rfl (by decide) (by rfl) rr ⟨⟨rfl, ⟨[], by rfl⟩, by rfl⟩, trivial⟩
     ·
      refine fx_bind (fun z5 c5 => ?_)
      cases z5 with
      | r0 =>
       exact fx_fin (r := (.r1 : rset_Rset_AddR)) (fu := 4000) (orc := (orcw [(1, true), (3, false), (4, false), (5, false), (6, false), (9, true), (13, false)] [] [] [] [(3, (rset_Rset_orderT0 (a2)   0 1)), (7, .mp (mapE (mPut ([] : List R_ii) a0 (0 : Int))))])) (live := [0, 3, 1]) (u := vq) (bl := [some (.cells [vi a2, vs 3 0 1 1, Value.int .u32 (1 : Int), Value.int .i32 (0 : Int), Value.int .u32 (0 : Int), Value.map (some 1)] 64), some (.cells [vi a0, vi a1] 42), some (.ro (mapV (mPut ([] : List R_ii) a0 (0 : Int))) true)]) (ob := [(dP (putE .i64 (vi a0) (vq) (mapE ([] : List R_ii)) = some (mapE (mPut ([] : List R_ii) a0 (0 : Int)))), true), ((decide ((0 : Int) ≥ a2)), false), (dP (rset_Rset_orderP0 #[vp 0 0] (a2)   0 1), true), (dS [vi a2, vn, Value.int .u32 (0 : Int), Value.int .i32 (1 : Int), Value.int .u32 (0 : Int), Value.map none], true), (((0 : Int) == (0 : Int)), true), ((decide (a1 > (2199023255552 : Int))), false), ((decide (a1 < (0 : Int))), false), ((decide (a0 ≥ (1024 : Int))), false), ((decide (a0 < (0 : Int))), false), ((decide (a2 > (0 : Int))), true)]) (by kernel_rfl) (obs_cons (dP_of (mp_put _ _ _)) <| oN <| obs_cons (dP_of (rset_Rset_orderC0 #[vp 0 0] (a2)   N c5 0 1 rfl (by decide) (by decide))) <| obs_cons (dP_of (cons_eq rfl (cons_eq rfl (cons_eq rfl (cons_eq rfl (cons_eq rfl (cons_eq rfl rfl))))))) <| oT <| oN <| oN <| oN <| oN <| oY obs_nil) rfl (by decide) (by rfl) rr ⟨⟨rfl, ⟨[], by rfl⟩, by rfl⟩, ⟨(same_cells (E := E_ii) _ (L := ([(⟨a0, a1⟩ : R_ii)] : List R_ii)) _ (show ([vi a0, vi a1] : List Value) = rowV E_ii ([(⟨a0, a1⟩ : R_ii)] : List R_ii) from rfl)), ⟨(show mapV (mPut ([] : List R_ii) a0 (0 : Int)) = mapV (mPut ([] : List R_ii) a0 (0 : Int)) from rfl), trivial⟩⟩⟩
 ·
  exact fx_none

theorem rset_Rset_Add_spec (a0 a1 a2 : Int) (N : Nat) (r : rset_Rset_AddR) (h : rset_Rset_Add a0 a1 a2 N = some r) : LSpec Try.prog 11 #[vp 0 0, vi a0, vi a1] [.cells [vi a2, vn, Value.int .u32 (0 : Int), Value.int .i32 (0 : Int), Value.int .u32 (0 : Int), Value.map none] 64] (rset_Rset_AddV a0 a1 a2 r) (rset_Rset_AddPo a0 a1 a2 r) :=
 fx_spec fit_Sr Try.func11 (by kernel_rfl) (by kernel_rfl) (fun r => by cases r <;> exact le_far _ rfl) (rset_Rset_Add_fx a0 a1 a2 N) h

noncomputable def rset_Rset_AddT0 (a0 a1 a2 : Int) (k0 n : Nat) : Told := .call [(k0, .cells [vi a2, vn, Value.int .u32 (0 : Int), Value.int .i32 (0 : Int), Value.int .u32 (0 : Int), Value.map none] 64)] (vi (1 : Int)) [] 0
def rset_Rset_AddP0 (A : Array Value) (a0 a1 a2 : Int) (k0 n : Nat) : Prop := CallSpec Try.prog 11 A [(k0, .cells [vi a2, vn, Value.int .u32 (0 : Int), Value.int .i32 (0 : Int), Value.int .u32 (0 : Int), Value.map none] 64)] (vi (1 : Int)) [] n 0

theorem rset_Rset_AddC0 (A : Array Value) (a0 a1 a2 : Int) (N : Nat) (h : rset_Rset_Add a0 a1 a2 N = some (.r0)) (k0 n : Nat) (hA : A = #[vp k0 0, vi a0, vi a1]) (hnd : ([k0] : List Nat).Nodup) (hlt : ∀ k ∈ ([k0] : List Nat), k < n) : rset_Rset_AddP0 A a0 a1 a2 k0 n :=
 cs_args hA (LSpec.callL (show LSpec Try.prog 11 #[vp 0 0, vi a0, vi a1] [.cells [vi a2, vn, Value.int .u32 (0 : Int), Value.int .i32 (0 : Int), Value.int .u32 (0 : Int), Value.map none] 64] (vi (1 : Int)) [some (.cells [vi a2, vn, Value.int .u32 (0 : Int), Value.int .i32 (0 : Int), Value.int .u32 (0 : Int), Value.map none] 64)] from rset_Rset_Add_spec a0 a1 a2 N _ h) [k0] n [] rfl hnd hlt (show 1 ≤ 1 from by decide) (show ∀ j ∈ ([] : List Nat), j < 1 from by decide) (by rfl) ⟨rfl, trivial⟩ (by rfl) ⟨rfl, trivial⟩ ⟨.inr rfl, trivial⟩ rfl rfl rfl (cons_eq (pair_eq rfl rfl) rfl) rfl)

noncomputable def rset_Rset_AddT1 (a0 a1 a2 : Int) (k0 n : Nat) : Told := .call [(k0, .cells [vi a2, vn, Value.int .u32 (0 : Int), Value.int .i32 (0 : Int), Value.int .u32 (0 : Int), Value.map none] 64)] (vq) [(k0, some (.cells [vi a2, vs n 0 1 1, Value.int .u32 (1 : Int), Value.int .i32 (0 : Int), Value.int .u32 (0 : Int), Value.map (some (n + 1))] 64)), (n, some (.cells (rowV E_ii ([(⟨a0, a1⟩ : R_ii)] : List R_ii)) 42)), ((n + 1), some (.ro (mapV (mPut ([] : List R_ii) a0 (0 : Int))) true))] 2
def rset_Rset_AddP1 (A : Array Value) (a0 a1 a2 : Int) (k0 n : Nat) : Prop := CallSpec Try.prog 11 A [(k0, .cells [vi a2, vn, Value.int .u32 (0 : Int), Value.int .i32 (0 : Int), Value.int .u32 (0 : Int), Value.map none] 64)] (vq) [(k0, some (.cells [vi a2, vs n 0 1 1, Value.int .u32 (1 : Int), Value.int .i32 (0 : Int), Value.int .u32 (0 : Int), Value.map (some (n + 1))] 64)), (n, some (.cells (rowV E_ii ([(⟨a0, a1⟩ : R_ii)] : List R_ii)) 42)), ((n + 1), some (.ro (mapV (mPut ([] : List R_ii) a0 (0 : Int))) true))] n 2

theorem rset_Rset_AddC1 (A : Array Value) (a0 a1 a2 : Int) (N : Nat) (h : rset_Rset_Add a0 a1 a2 N = some (.r1)) (k0 n : Nat) (hA : A = #[vp k0 0, vi a0, vi a1]) (hnd : ([k0] : List Nat).Nodup) (hlt : ∀ k ∈ ([k0] : List Nat), k < n) : rset_Rset_AddP1 A a0 a1 a2 k0 n :=
 cs_args hA (LSpec.callL (show LSpec Try.prog 11 #[vp 0 0, vi a0, vi a1] [.cells [vi a2, vn, Value.int .u32 (0 : Int), Value.int .i32 (0 : Int), Value.int .u32 (0 : Int), Value.map none] 64] (vq) [some (.cells [vi a2, vs 1 0 1 1, Value.int .u32 (1 : Int), Value.int .i32 (0 : Int), Value.int .u32 (0 : Int), Value.map (some 2)] 64), some (.cells (rowV E_ii ([(⟨a0, a1⟩ : R_ii)] : List R_ii)) 42), some (.ro (mapV (mPut ([] : List R_ii) a0 (0 : Int))) true)] from rset_Rset_Add_spec a0 a1 a2 N _ h) [k0] n [0, 1, 2] rfl hnd hlt (show 1 ≤ 3 from by decide) (show ∀ j ∈ ([0, 1, 2] : List Nat), j < 3 from by decide) (by rfl) ⟨rfl, trivial⟩ (by rfl) ⟨rfl, ⟨(under_row _ _ _), ⟨rfl, trivial⟩⟩⟩ ⟨.inl (by decide), ⟨(by decide), ⟨(by decide), trivial⟩⟩⟩ rfl rfl rfl (cons_eq (pair_eq rfl rfl) rfl) (cons_eq (pair_eq rfl (some_eq rfl)) (cons_eq (pair_eq rfl (some_eq (renO_row _ _ _))) (cons_eq (pair_eq rfl (some_eq rfl)) rfl))))

noncomputable def ref06_HasV (a0 a1 : Int) : ref06_HasR → Value
 | .r0 => Value.tuple #[vq, vf]
noncomputable def ref06_HasPo (a0 a1 : Int) : ref06_HasR → List (Option AObj)
 | .r0 => []

def ref06_HasHd : ref06_HasX → Nat
 | .h1m0 => 1
noncomputable def ref06_HasL (a0 a1 : Int) : ref06_HasX → List (Nat × Value)
 | .h1m0 => [(1, vi a1), (2, vp 0 0), (6, vq)]
noncomputable def ref06_HasH (a0 a1 : Int) : ref06_HasX → List (Option AObj)
 | .h1m0 => [some (.cells [vi a0, vn] 29)]

noncomputable def ref06_HasC : Nat → Code × List Kont
 | 1 => headOf [1, 0, 1, 3] (bodyC Try.f14) []
 | _ => (.skip, [])
def ref06_HasIL : Nat → Bool
 | 1 => true
 | _ => true
noncomputable def ref06_HasK (i : Nat) : List Kont := match ref06_HasIL i with | true => .rnd i :: (ref06_HasC i).2 | false => (ref06_HasC i).2

noncomputable def ref06_HasM (a0 a1 : Int) (N : Nat) : Mach := ⟨Try.f14, [], ref06_HasX, ref06_HasR, ref06_HasStep a0 a1 N, ref06_HasHd, ref06_HasC, ref06_HasIL, ref06_HasL a0 a1, ref06_HasH a0 a1, ref06_HasV a0 a1, ref06_HasPo a0 a1⟩

theorem ref06_Has_ok1_0 (a0 a1 : Int) (N : Nat) : (ref06_HasM a0 a1 N).Ok Try.prog ext_Sr (.h1m0 : ref06_HasX) (ref06_HasStep a0 a1 N (.h1m0 : ref06_HasX)) := by
 show (ref06_HasM a0 a1 N).Ok Try.prog ext_Sr (.h1m0 : ref06_HasX) (ref06_Has_h1m0 a0 a1 N)
 unfold ref06_Has_h1m0
 exact Mach.ok_fin (M := ref06_HasM a0 a1 N) (cd := 1000000) (cm := 0) (r := (.r0 : ref06_HasR)) (fu := 4000) (orc := (orcw [] [] [] [] [])) (live := []) (u := Value.tuple #[vq, vf]) (bl := []) (ob := []) (fun gv => by kernel_rfl) obs_nil rfl (by decide) (by rfl) rr trivial

theorem ref06_Has_en (a0 a1 : Int) (N : Nat) : (ref06_HasM a0 a1 N).Enter Try.prog ext_Sr #[Value.agg #[vi a0, vn], vi a1] (ref06_HasIn a0 a1 N) := by
 unfold ref06_HasIn
 exact Mach.en_head (bK := ref06_HasC 1) (M := ref06_HasM a0 a1 N) (cd := 1000000) (cm := 0) (y := (.h1m0 : ref06_HasX)) (fu := 4000) (orc := (orcw [] [] [] [] [])) (live := [0]) (tv := [some (vi a1), some (vp 0 0), some (vq)]) (bl := [some (.cells [vi a0, vn] 29)]) (ob := []) rfl rfl (show rids (ref06_HasC 1).2 = [] from rfl) (by kernel_rfl) obs_nil rfl (by decide) (by rfl) ⟨rr, ⟨rr, ⟨rr, trivial⟩⟩⟩ ⟨⟨rfl, ⟨[], by rfl⟩, by rfl⟩, trivial⟩

theorem ref06_Has_spec (a0 a1 : Int) (N : Nat) (r : ref06_HasR) (h : ref06_Has a0 a1 N = some r) : LSpec Try.prog 14 #[Value.agg #[vi a0, vn], vi a1] [] (ref06_HasV a0 a1 r) (ref06_HasPo a0 a1 r) :=
 Mach.spec fit_Sr (ref06_HasM a0 a1 N) Try.func14 (by kernel_rfl) (by kernel_rfl) (fun x => by cases x <;> exact le_far _ rfl) (fun r => by cases r <;> exact le_far _ rfl) (fun x => by
  cases x with
  | h1m0 => exact fun _ => (show ¬ (1 ∈ rids (ref06_HasC 1).2) from by decide +kernel)
  ) (fun x => (show (ref06_HasM a0 a1 N).Ok Try.prog ext_Sr x (ref06_HasStep a0 a1 N x) from by
  cases x with
  | h1m0 => exact ref06_Has_ok1_0 a0 a1 N
  )) (ref06_Has_en a0 a1 N) (n := N) h

noncomputable def ref06_HasT0 (a0 a1 : Int) (n : Nat) : Told := .call [] (Value.tuple #[vq, vf]) [] 0
def ref06_HasP0 (A : Array Value) (a0 a1 : Int) (n : Nat) : Prop := CallSpec Try.prog 14 A [] (Value.tuple #[vq, vf]) [] n 0

theorem ref06_HasC0 (A : Array Value) (a0 a1 : Int) (N : Nat) (h : ref06_Has a0 a1 N = some (.r0)) (n : Nat) (hA : A = #[Value.agg #[vi a0, vn], vi a1]) (hnd : ([] : List Nat).Nodup) (hlt : ∀ k ∈ ([] : List Nat), k < n) : ref06_HasP0 A a0 a1  n :=
 cs_args hA (LSpec.callL (show LSpec Try.prog 14 #[Value.agg #[vi a0, vn], vi a1] [] (Value.tuple #[vq, vf]) [] from ref06_Has_spec a0 a1 N _ h) [] n [] rfl hnd hlt (show 0 ≤ 0 from by decide) (show ∀ j ∈ ([] : List Nat), j < 0 from by decide) (by rfl) trivial (by rfl) trivial trivial rfl rfl rfl rfl rfl)

noncomputable def ref06_AddV (a0 a1 a2 : Int) : ref06_AddR → Value
 | .r0 w1 => Value.tuple #[Value.agg #[vi a0, vn], vi w1]
 | .r1 => Value.tuple #[Value.agg #[vi a0, vs 0 0 1 1], vq]
noncomputable def ref06_AddPo (a0 a1 a2 : Int) : ref06_AddR → List (Option AObj)
 | .r0 w1 => []
 | .r1 => [some (.cells (rowV E_ii ([(⟨a1, a2⟩ : R_ii)] : List R_ii)) 42)]

theorem ref06_Add_fx (a0 a1 a2 : Int) (N : Nat) : Fx Try.prog ext_Sr Try.f12 [] #[Value.agg #[vi a0, vn], vi a1, vi a2] (ref06_AddV a0 a1 a2) (ref06_AddPo a0 a1 a2) (ref06_Add a0 a1 a2 N) := by
 unfold ref06_Add
 refine fx_ite (fun g0 => ?_) (fun g0 => ?_)
 ·
  exact fx_fin (r := (.r0 ((1 : Int)) : ref06_AddR)) (fu := 4000) (orc := (orcw [(0, true)] [] [] [] [])) (live := []) (u := Value.tuple #[Value.agg #[vi a0, vn], vi (1 : Int)]) (bl := []) (ob := [((decide (a1 < (0 : Int))), true)]) (by kernel_rfl) (oY obs_nil) rfl (by decide) (by rfl) rr trivial
 ·
  refine fx_ite (fun g1 => ?_) (fun g1 => ?_)
  ·
   exact fx_fin (r := (.r0 ((1 : Int)) : ref06_AddR)) (fu := 4000) (orc := (orcw [(0, false), (1, true)] [] [] [] [])) (live := []) (u := Value.tuple #[Value.agg #[vi a0, vn], vi (1 : Int)]) (bl := []) (ob := [((decide (a1 > (1023 : Int))), true), ((decide (a1 < (0 : Int))), false)]) (by kernel_rfl) (oY <| oN obs_nil) rfl (by decide) (by rfl) rr trivial
  ·
   refine fx_ite (fun g2 => ?_) (fun g2 => ?_)
   ·
    exact fx_fin (r := (.r0 ((1 : Int)) : ref06_AddR)) (fu := 4000) (orc := (orcw [(0, false), (1, false), (2, true)] [] [] [] [])) (live := []) (u := Value.tuple #[Value.agg #[vi a0, vn], vi (1 : Int)]) (bl := []) (ob := [((decide (a2 < (0 : Int))), true), ((decide (a1 > (1023 : Int))), false), ((decide (a1 < (0 : Int))), false)]) (by kernel_rfl) (oY <| oN <| oN obs_nil) rfl (by decide) (by rfl) rr trivial
   ·
    refine fx_ite (fun g3 => ?_) (fun g3 => ?_)
    ·
     exact fx_fin (r := (.r0 ((1 : Int)) : ref06_AddR)) (fu := 4000) (orc := (orcw [(0, false), (1, false), (2, false), (3, true)] [] [] [] [])) (live := []) (u := Value.tuple #[Value.agg #[vi a0, vn], vi (1 : Int)]) (bl := []) (ob := [((decide (a2 > (2199023255552 : Int))), true), ((decide (a2 < (0 : Int))), false), ((decide (a1 > (1023 : Int))), false), ((decide (a1 < (0 : Int))), false)]) (by kernel_rfl) (oY <| oN <| oN <| oN obs_nil) rfl (by decide) (by rfl) rr trivial
    ·
     refine fx_bind (fun z4 c4 => ?_)
     cases z4 with
     | r0 =>
      refine fx_ite (fun g5 => ?_) (fun g5 => ?_)
      ·
       exact fx_fin (r := (.r0 ((60 : Int)) : ref06_AddR)) (fu := 4000) (orc := (orcw [(0, false), (1, false), (2, false), (3, false), (4, true)] [] [] [] [(0, (ref06_HasT0 (a0) (a1)    2))])) (live := []) (u := Value.tuple #[Value.agg #[vi a0, vn], vi (60 : Int)]) (bl := []) (ob := [((decide ((0 : Int) ≥ a0)), true), (dP (ref06_HasP0 #[Value.agg #[vi a0, vn], vi a1] (a0) (a1)    2), true), ((decide (a2 > (2199023255552 : Int))), false), ((decide (a2 < (0 : Int))), false), ((decide (a1 > (1023 : Int))), false), ((decide (a1 < (0 : Int))), false)]) (by kernel_rfl) (oY <| obs_cons (dP_of (ref06_HasC0 #[Value.agg #[vi a0, vn], vi a1] (a0) (a1)   N c4  2 rfl (by decide) (by decide))) <| oN <| oN <| oN <| oN obs_nil) rfl (by decide) (by rfl) rr trivial
      ·
       exact fx_fin (r := (.r1 : ref06_AddR)) (fu := 4000) (orc := (orcw [(0, false), (1, false), (2, false), (3, false), (4, false)] [] [] [] [(0, (ref06_HasT0 (a0) (a1)    2))])) (live := [3]) (u := Value.tuple #[Value.agg #[vi a0, vs 3 0 1 1], vq]) (bl := [some (.cells [vi a1, vi a2] 42)]) (ob := [((decide ((0 : Int) ≥ a0)), false), (dP (ref06_HasP0 #[Value.agg #[vi a0, vn], vi a1] (a0) (a1)    2), true), ((decide (a2 > (2199023255552 : Int))), false), ((decide (a2 < (0 : Int))), false), ((decide (a1 > (1023 : Int))), false), ((decide (a1 < (0 : Int))), false)]) (by kernel_rfl) (oN <| obs_cons (dP_of (ref06_HasC0 #[Value.agg #[vi a0, vn], vi a1] (a0) (a1)   N c4  2 rfl (by decide) (by decide))) <| oN <| oN <| oN <| oN obs_nil) rfl (by decide) (by rfl) rr ⟨(same_cells (E := E_ii) _ (L := ([(⟨a1, a2⟩ : R_ii)] : List R_ii)) _ (show ([vi a1, vi a2] : List Value) = rowV E_ii ([(⟨a1, a2⟩ : R_ii)] : List R_ii) from rfl)), trivial⟩

theorem ref06_Add_spec (a0 a1 a2 : Int) (N : Nat) (r : ref06_AddR) (h : ref06_Add a0 a1 a2 N = some r) : LSpec Try.prog 12 #[Value.agg #[vi a0, vn], vi a1, vi a2] [] (ref06_AddV a0 a1 a2 r) (ref06_AddPo a0 a1 a2 r) :=
 fx_spec fit_Sr Try.func12 (by kernel_rfl) (by kernel_rfl) (fun r => by cases r <;> exact le_far _ rfl) (ref06_Add_fx a0 a1 a2 N) h

noncomputable def ref06_AddT0 (a0 a1 a2 w1 : Int) (n : Nat) : Told := .call [] (Value.tuple #[Value.agg #[vi a0, vn], vi w1]) [] 0
def ref06_AddP0 (A : Array Value) (a0 a1 a2 w1 : Int) (n : Nat) : Prop := CallSpec Try.prog 12 A [] (Value.tuple #[Value.agg #[vi a0, vn], vi w1]) [] n 0

theorem ref06_AddC0 (A : Array Value) (a0 a1 a2 w1 : Int) (N : Nat) (h : ref06_Add a0 a1 a2 N = some (.r0 w1)) (n : Nat) (hA : A = #[Value.agg #[vi a0, vn], vi a1, vi a2]) (hnd : ([] : List Nat).Nodup) (hlt : ∀ k ∈ ([] : List Nat), k < n) : ref06_AddP0 A a0 a1 a2 w1  n :=
 cs_args hA (LSpec.callL (show LSpec Try.prog 12 #[Value.agg #[vi a0, vn], vi a1, vi a2] [] (Value.tuple #[Value.agg #[vi a0, vn], vi w1]) [] from ref06_Add_spec a0 a1 a2 N _ h) [] n [] rfl hnd hlt (show 0 ≤ 0 from by decide) (show ∀ j ∈ ([] : List Nat), j < 0 from by decide) (by rfl) trivial (by rfl) trivial trivial rfl rfl rfl rfl rfl)

noncomputable def ref06_AddT1 (a0 a1 a2 : Int) (n : Nat) : Told := .call [] (Value.tuple #[Value.agg #[vi a0, vs n 0 1 1], vq]) [(n, some (.cells (rowV E_ii ([(⟨a1, a2⟩ : R_ii)] : List R_ii)) 42))] 1
def ref06_AddP1 (A : Array Value) (a0 a1 a2 : Int) (n : Nat) : Prop := CallSpec Try.prog 12 A [] (Value.tuple #[Value.agg #[vi a0, vs n 0 1 1], vq]) [(n, some (.cells (rowV E_ii ([(⟨a1, a2⟩ : R_ii)] : List R_ii)) 42))] n 1

theorem ref06_AddC1 (A : Array Value) (a0 a1 a2 : Int) (N : Nat) (h : ref06_Add a0 a1 a2 N = some (.r1)) (n : Nat) (hA : A = #[Value.agg #[vi a0, vn], vi a1, vi a2]) (hnd : ([] : List Nat).Nodup) (hlt : ∀ k ∈ ([] : List Nat), k < n) : ref06_AddP1 A a0 a1 a2  n :=
 cs_args hA (LSpec.callL (show LSpec Try.prog 12 #[Value.agg #[vi a0, vn], vi a1, vi a2] [] (Value.tuple #[Value.agg #[vi a0, vs 0 0 1 1], vq]) [some (.cells (rowV E_ii ([(⟨a1, a2⟩ : R_ii)] : List R_ii)) 42)] from ref06_Add_spec a0 a1 a2 N _ h) [] n [0] rfl hnd hlt (show 0 ≤ 1 from by decide) (show ∀ j ∈ ([0] : List Nat), j < 1 from by decide) (by rfl) trivial (by rfl) ⟨(under_row _ _ _), trivial⟩ ⟨(by decide), trivial⟩ rfl rfl rfl rfl (cons_eq (pair_eq rfl (some_eq (renO_row _ _ _))) rfl))

noncomputable def rset_Rset_HasV (a0 a1 : Int) : rset_Rset_HasR → Value
 | .r0 => Value.tuple #[vq, vf]
noncomputable def rset_Rset_HasPo (a0 a1 : Int) : rset_Rset_HasR → List (Option AObj)
 | .r0 => [some (.cells [vi a1, vn, Value.int .u32 (1 : Int), Value.int .i32 (0 : Int), Value.int .u32 (0 : Int), Value.map (some 1)] 64), some (.ro (mapV ([] : List R_ii)) true)]

theorem rset_Rset_Has_fx (a0 a1 : Int) (N : Nat) : Fx Try.prog ext_Sr Try.f13 [.cells [vi a1, vn, Value.int .u32 (0 : Int), Value.int .i32 (0 : Int), Value.int .u32 (0 : Int), Value.map none] 64] #[vp 0 0, vi a0] (rset_Rset_HasV a0 a1) (rset_Rset_HasPo a0 a1) (rset_Rset_Has a0 a1 N) := by
 unfold rset_Rset_Has
 refine fx_ite (fun g0 => ?_) (fun g0 => ?_)
 ·
  refine fx_bind (fun z1 c1 => ?_)
  cases z1 with
  | r0 =>
   exact fx_fin (r := (.r0 : rset_Rset_HasR)) (fu := 4000) (orc := (orcw [(1, true), (5, true)] [] [] [] [(3, (rset_Rset_orderT0 (a1)   0 1))])) (live := [0, 1]) (u := Value.tuple #[vq, vf]) (bl := [some (.cells [vi a1, vn, Value.int .u32 (1 : Int), Value.int .i32 (0 : Int), Value.int .u32 (0 : Int), Value.map (some 1)] 64), some (.ro (mapV ([] : List R_ii)) true)]) (ob := [(dP (rset_Rset_orderP0 #[vp 0 0] (a1)   0 1), true), (dS [vi a1, vn, Value.int .u32 (0 : Int), Value.int .i32 (1 : Int), Value.int .u32 (0 : Int), Value.map none], true), (((0 : Int) == (0 : Int)), true), ((decide (a1 > (0 : Int))), true)]) (by kernel_rfl) (obs_cons (dP_of (rset_Rset_orderC0 #[vp 0 0] (a1)   N c1 0 1 rfl (by decide) (by decide))) <| obs_cons (dP_of (cons_eq rfl (cons_eq rfl (cons_eq rfl (cons_eq rfl (cons_eq rfl (cons_eq rfl rfl))))))) <| oT <| oY obs_nil) rfl (by decide) (by rfl) rr ⟨⟨rfl, ⟨[], by rfl⟩, by rfl⟩, ⟨(show mapV ([] : List R_ii) = mapV ([] : List R_ii) from rfl), trivial⟩⟩
 ·
  exact fx_none

theorem rset_Rset_Has_spec (a0 a1 : Int) (N : Nat) (r : rset_Rset_HasR) (h : rset_Rset_Has a0 a1 N = some r) : LSpec Try.prog 13 #[vp 0 0, vi a0] [.cells [vi a1, vn, Value.int .u32 (0 : Int), Value.int .i32 (0 : Int), Value.int .u32 (0 : Int), Value.map none] 64] (rset_Rset_HasV a0 a1 r) (rset_Rset_HasPo a0 a1 r) :=
 fx_spec fit_Sr Try.func13 (by kernel_rfl) (by kernel_rfl) (fun r => by cases r <;> exact le_far _ rfl) (rset_Rset_Has_fx a0 a1 N) h

noncomputable def rset_Rset_HasT0 (a0 a1 : Int) (k0 n : Nat) : Told := .call [(k0, .cells [vi a1, vn, Value.int .u32 (0 : Int), Value.int .i32 (0 : Int), Value.int .u32 (0 : Int), Value.map none] 64)] (Value.tuple #[vq, vf]) [(k0, some (.cells [vi a1, vn, Value.int .u32 (1 : Int), Value.int .i32 (0 : Int), Value.int .u32 (0 : Int), Value.map (some n)] 64)), (n, some (.ro (mapV ([] : List R_ii)) true))] 1
def rset_Rset_HasP0 (A : Array Value) (a0 a1 : Int) (k0 n : Nat) : Prop := CallSpec Try.prog 13 A [(k0, .cells [vi a1, vn, Value.int .u32 (0 : Int), Value.int .i32 (0 : Int), Value.int .u32 (0 : Int), Value.map none] 64)] (Value.tuple #[vq, vf]) [(k0, some (.cells [vi a1, vn, Value.int .u32 (1 : Int), Value.int .i32 (0 : Int), Value.int .u32 (0 : Int), Value.map (some n)] 64)), (n, some (.ro (mapV ([] : List R_ii)) true))] n 1

theorem rset_Rset_HasC0 (A : Array Value) (a0 a1 : Int) (N : Nat) (h : rset_Rset_Has a0 a1 N = some (.r0)) (k0 n : Nat) (hA : A = #[vp k0 0, vi a0]) (hnd : ([k0] : List Nat).Nodup) (hlt : ∀ k ∈ ([k0] : List Nat), k < n) : rset_Rset_HasP0 A a0 a1 k0 n :=
 cs_args hA (LSpec.callL (show LSpec Try.prog 13 #[vp 0 0, vi a0] [.cells [vi a1, vn, Value.int .u32 (0 : Int), Value.int .i32 (0 : Int), Value.int .u32 (0 : Int), Value.map none] 64] (Value.tuple #[vq, vf]) [some (.cells [vi a1, vn, Value.int .u32 (1 : Int), Value.int .i32 (0 : Int), Value.int .u32 (0 : Int), Value.map (some 1)] 64), some (.ro (mapV ([] : List R_ii)) true)] from rset_Rset_Has_spec a0 a1 N _ h) [k0] n [0, 1] rfl hnd hlt (show 1 ≤ 2 from by decide) (show ∀ j ∈ ([0, 1] : List Nat), j < 2 from by decide) (by rfl) ⟨rfl, trivial⟩ (by rfl) ⟨rfl, ⟨rfl, trivial⟩⟩ ⟨.inl (by decide), ⟨(by decide), trivial⟩⟩ rfl rfl rfl (cons_eq (pair_eq rfl rfl) rfl) (cons_eq (pair_eq rfl (some_eq rfl)) (cons_eq (pair_eq rfl (some_eq rfl)) rfl)))

noncomputable def rset_Rset_AtV (a0 a1 : Int) (L2 : List R_ii) : rset_Rset_AtR → Value
 | .r0 => Value.tuple #[Value.agg #[vq, vq], vf]
noncomputable def rset_Rset_AtPo (a0 a1 : Int) (L2 : List R_ii) : rset_Rset_AtR → List (Option AObj)
 | .r0 => [some (.cells [vi a1, vn, Value.int .u32 (1 : Int), Value.int .i32 (0 : Int), Value.int .u32 (0 : Int), Value.map (some 1)] 64), some (.ro (mapV L2) true)]

theorem rset_Rset_At_fx (a0 a1 : Int) (L2 : List R_ii) (N : Nat) : Fx Try.prog ext_Sr Try.f15 [.cells [vi a1, vn, Value.int .u32 (1 : Int), Value.int .i32 (0 : Int), Value.int .u32 (0 : Int), Value.map (some 1)] 64, .ro (mapV L2) true] #[vp 0 0, vi a0] (rset_Rset_AtV a0 a1 L2) (rset_Rset_AtPo a0 a1 L2) (rset_Rset_At a0 a1 L2 N) := by
 unfold rset_Rset_At
 refine fx_ite (fun g0 => ?_) (fun g0 => ?_)
 ·
  exact fx_fin (r := (.r0 : rset_Rset_AtR)) (fu := 4000) (orc := (orcw [(0, true)] [] [] [] [])) (live := [0, 1]) (u := Value.tuple #[Value.agg #[vq, vq], vf]) (bl := [some (.cells [vi a1, vn, Value.int .u32 (1 : Int), Value.int .i32 (0 : Int), Value.int .u32 (0 : Int), Value.map (some 1)] 64), some (.ro (mapV L2) true)]) (ob := [((decide (a0 < (0 : Int))), true)]) (by kernel_rfl) (oY obs_nil) rfl (by decide) (by rfl) rr ⟨⟨rfl, ⟨[], by rfl⟩, by rfl⟩, ⟨(show mapV L2 = mapV L2 from rfl), trivial⟩⟩
 ·
  refine fx_ite (fun g1 => ?_) (fun g1 => ?_)
  ·
   exact fx_fin (r := (.r0 : rset_Rset_AtR)) (fu := 4000) (orc := (orcw [(0, false), (2, true), (4, true)] [] [] [] [])) (live := [0, 1]) (u := Value.tuple #[Value.agg #[vq, vq], vf]) (bl := [some (.cells [vi a1, vn, Value.int .u32 (1 : Int), Value.int .i32 (0 : Int), Value.int .u32 (0 : Int), Value.map (some 1)] 64), some (.ro (mapV L2) true)]) (ob := [((decide (a0 ≥ (0 : Int))), true), ((decide (a1 > (0 : Int))), true), ((decide (a0 < (0 : Int))), false)]) (by kernel_rfl) (oY <| oY <| oN obs_nil) rfl (by decide) (by rfl) rr ⟨⟨rfl, ⟨[], by rfl⟩, by rfl⟩, ⟨(show mapV L2 = mapV L2 from rfl), trivial⟩⟩
  ·
   exact fx_none

theorem rset_Rset_At_spec (a0 a1 : Int) (L2 : List R_ii) (N : Nat) (r : rset_Rset_AtR) (h : rset_Rset_At a0 a1 L2 N = some r) : LSpec Try.prog 15 #[vp 0 0, vi a0] [.cells [vi a1, vn, Value.int .u32 (1 : Int), Value.int .i32 (0 : Int), Value.int .u32 (0 : Int), Value.map (some 1)] 64, .ro (mapV L2) true] (rset_Rset_AtV a0 a1 L2 r) (rset_Rset_AtPo a0 a1 L2 r) :=
 fx_spec fit_Sr Try.func15 (by kernel_rfl) (by kernel_rfl) (fun r => by cases r <;> exact le_far _ rfl) (rset_Rset_At_fx a0 a1 L2 N) h

noncomputable def rset_Rset_AtT0 (a0 a1 : Int) (L2 : List R_ii) (k0 k1 n : Nat) : Told := .call [(k0, .cells [vi a1, vn, Value.int .u32 (1 : Int), Value.int .i32 (0 : Int), Value.int .u32 (0 : Int), Value.map (some k1)] 64), (k1, .ro (mapV L2) true)] (Value.tuple #[Value.agg #[vq, vq], vf]) [] 0
def rset_Rset_AtP0 (A : Array Value) (a0 a1 : Int) (L2 : List R_ii) (k0 k1 n : Nat) : Prop := CallSpec Try.prog 15 A [(k0, .cells [vi a1, vn, Value.int .u32 (1 : Int), Value.int .i32 (0 : Int), Value.int .u32 (0 : Int), Value.map (some k1)] 64), (k1, .ro (mapV L2) true)] (Value.tuple #[Value.agg #[vq, vq], vf]) [] n 0

theorem rset_Rset_AtC0 (A : Array Value) (a0 a1 : Int) (L2 : List R_ii) (N : Nat) (h : rset_Rset_At a0 a1 L2 N = some (.r0)) (k0 k1 n : Nat) (hA : A = #[vp k0 0, vi a0]) (hnd : ([k0, k1] : List Nat).Nodup) (hlt : ∀ k ∈ ([k0, k1] : List Nat), k < n) : rset_Rset_AtP0 A a0 a1 L2 k0 k1 n :=
 cs_args hA (LSpec.callL (show LSpec Try.prog 15 #[vp 0 0, vi a0] [.cells [vi a1, vn, Value.int .u32 (1 : Int), Value.int .i32 (0 : Int), Value.int .u32 (0 : Int), Value.map (some 1)] 64, .ro (mapV L2) true] (Value.tuple #[Value.agg #[vq, vq], vf]) [some (.cells [vi a1, vn, Value.int .u32 (1 : Int), Value.int .i32 (0 : Int), Value.int .u32 (0 : Int), Value.map (some 1)] 64), some (.ro (mapV L2) true)] from rset_Rset_At_spec a0 a1 L2 N _ h) [k0, k1] n [] rfl hnd hlt (show 2 ≤ 2 from by decide) (show ∀ j ∈ ([] : List Nat), j < 2 from by decide) (by rfl) ⟨rfl, ⟨rfl, trivial⟩⟩ (by rfl) ⟨rfl, ⟨rfl, trivial⟩⟩ ⟨.inr rfl, ⟨.inr rfl, trivial⟩⟩ rfl rfl rfl (cons_eq (pair_eq rfl rfl) (cons_eq (pair_eq rfl rfl) rfl)) rfl)

noncomputable def ref06_SameV  : ref06_SameR → Value
 | .r0 => vT
noncomputable def ref06_SamePo  : ref06_SameR → List (Option AObj)
 | .r0 => []

def ref06_SameHd : ref06_SameX → Nat
 | .h1m0 => 1
noncomputable def ref06_SameL  : ref06_SameX → List (Nat × Value)
 | .h1m0 => [(0, vn), (1, vn), (5, vq)]
noncomputable def ref06_SameH  : ref06_SameX → List (Option AObj)
 | .h1m0 => []

noncomputable def ref06_SameC : Nat → Code × List Kont
 | 1 => headOf [1, 1, 0, 1, 3] (bodyC Try.f17) []
 | _ => (.skip, [])
def ref06_SameIL : Nat → Bool
 | 1 => true
 | _ => true
noncomputable def ref06_SameK (i : Nat) : List Kont := match ref06_SameIL i with | true => .rnd i :: (ref06_SameC i).2 | false => (ref06_SameC i).2

noncomputable def ref06_SameM  (N : Nat) : Mach := ⟨Try.f17, [], ref06_SameX, ref06_SameR, ref06_SameStep  N, ref06_SameHd, ref06_SameC, ref06_SameIL, ref06_SameL , ref06_SameH , ref06_SameV , ref06_SamePo ⟩

theorem ref06_Same_ok1_0  (N : Nat) : (ref06_SameM  N).Ok Try.prog ext_Sr (.h1m0 : ref06_SameX) (ref06_SameStep  N (.h1m0 : ref06_SameX)) := by
 show (ref06_SameM  N).Ok Try.prog ext_Sr (.h1m0 : ref06_SameX) (ref06_Same_h1m0  N)
 unfold ref06_Same_h1m0
 exact Mach.ok_fin (M := ref06_SameM  N) (cd := 1000000) (cm := 0) (r := (.r0 : ref06_SameR)) (fu := 4000) (orc := (orcw [] [] [] [] [])) (live := []) (u := vT) (bl := []) (ob := []) (fun gv => by kernel_rfl) obs_nil rfl (by decide) (by rfl) rr trivial

theorem ref06_Same_en  (N : Nat) : (ref06_SameM  N).Enter Try.prog ext_Sr #[vn, vn] (ref06_SameIn  N) := by
 unfold ref06_SameIn
 exact Mach.en_head (bK := ref06_SameC 1) (M := ref06_SameM  N) (cd := 1000000) (cm := 0) (y := (.h1m0 : ref06_SameX)) (fu := 4000) (orc := (orcw [] [] [] [] [])) (live := []) (tv := [some (vn), some (vn), some (vq)]) (bl := []) (ob := []) rfl rfl (show rids (ref06_SameC 1).2 = [] from rfl) (by kernel_rfl) obs_nil rfl (by decide) (by rfl) ⟨rr, ⟨rr, ⟨rr, trivial⟩⟩⟩ trivial

theorem ref06_Same_spec  (N : Nat) (r : ref06_SameR) (h : ref06_Same  N = some r) : LSpec Try.prog 17 #[vn, vn] [] (ref06_SameV  r) (ref06_SamePo  r) :=
 Mach.spec fit_Sr (ref06_SameM  N) Try.func17 (by kernel_rfl) (by kernel_rfl) (fun x => by cases x <;> exact le_far _ rfl) (fun r => by cases r <;> exact le_far _ rfl) (fun x => by
  cases x with
  | h1m0 => exact fun _ => (show ¬ (1 ∈ rids (ref06_SameC 1).2) from by decide +kernel)
  ) (fun x => (show (ref06_SameM  N).Ok Try.prog ext_Sr x (ref06_SameStep  N x) from by
  cases x with
  | h1m0 => exact ref06_Same_ok1_0  N
  )) (ref06_Same_en  N) (n := N) h

noncomputable def ref06_SameT0  (n : Nat) : Told := .call [] (vT) [] 0
def ref06_SameP0 (A : Array Value)  (n : Nat) : Prop := CallSpec Try.prog 17 A [] (vT) [] n 0

theorem ref06_SameC0 (A : Array Value)  (N : Nat) (h : ref06_Same  N = some (.r0)) (n : Nat) (hA : A = #[vn, vn]) (hnd : ([] : List Nat).Nodup) (hlt : ∀ k ∈ ([] : List Nat), k < n) : ref06_SameP0 A   n :=
 cs_args hA (LSpec.callL (show LSpec Try.prog 17 #[vn, vn] [] (vT) [] from ref06_Same_spec  N _ h) [] n [] rfl hnd hlt (show 0 ≤ 0 from by decide) (show ∀ j ∈ ([] : List Nat), j < 0 from by decide) (by rfl) trivial (by rfl) trivial trivial rfl rfl rfl rfl rfl)

noncomputable def rset_Rset_Has_2V (a0 a1 : Int) (L2 L3 : List R_ii) : rset_Rset_Has_2R → Value
 | .r0 w2 w3 => Value.tuple #[vi w2, Value.bool w3]
noncomputable def rset_Rset_Has_2Po (a0 a1 : Int) (L2 L3 : List R_ii) : rset_Rset_Has_2R → List (Option AObj)
 | .r0 w2 w3 => [some (.cells [vi a1, vs 1 0 L2.length L2.length, Value.int .u32 (1 : Int), Value.int .i32 (0 : Int), Value.int .u32 (0 : Int), Value.map (some 2)] 64), some (.cells (rowV E_ii L2) 42), some (.ro (mapV L3) true)]

theorem rset_Rset_Has_2_fx (a0 a1 : Int) (L2 L3 : List R_ii) (N : Nat) : Fx Try.prog ext_Sr Try.f13 [.cells [vi a1, vs 1 0 L2.length L2.length, Value.int .u32 (1 : Int), Value.int .i32 (0 : Int), Value.int .u32 (0 : Int), Value.map (some 2)] 64, .cells (rowV E_ii L2) 42, .ro (mapV L3) true] #[vp 0 0, vi a0] (rset_Rset_Has_2V a0 a1 L2 L3) (rset_Rset_Has_2Po a0 a1 L2 L3) (rset_Rset_Has_2 a0 a1 L2 L3 N) := by
 unfold rset_Rset_Has_2
 refine fx_ite (fun g0 => ?_) (fun g0 => ?_)
 ·
  refine fx_ite (fun g1 => ?_) (fun g1 => ?_)
  ·
   refine fx_ite (fun g2 => ?_) (fun g2 => ?_)
   ·
    refine fx_ite (fun g3 => ?_) (fun g3 => ?_)
    ·
     exact fx_fin (r := (.r0 ((L2.getD ((mGet L3 a0)).toNat R_ii.z).a1) (true) : rset_Rset_Has_2R)) (fu := 4000) (orc := (orcw [(1, true)] [] [(0, ((mGet L3 a0)).toNat)] [(3, [.i (L2.getD ((mGet L3 a0)).toNat R_ii.z).a1])] [(1, .lk (some (vi (mGet L3 a0))))])) (live := [0, 1, 2]) (u := Value.tuple #[vi (L2.getD ((mGet L3 a0)).toNat R_ii.z).a1, vT]) (bl := [some (.cells [vi a1, vs 1 0 L2.length L2.length, Value.int .u32 (1 : Int), Value.int .i32 (0 : Int), Value.int .u32 (0 : Int), Value.map (some 2)] 64), some (.cells (rowV E_ii L2) 42), some (.ro (mapV L3) true)]) (ob := [(sameR (takeN 1 (List.drop ((0 + (((mGet L3 a0)).toNat * 2)) + 1) (rowV E_ii L2))) [.i (L2.getD ((mGet L3 a0)).toNat R_ii.z).a1], true), (Nat.blt ((mGet L3 a0)).toNat L2.length, true), ((mGet L3 a0) == Int.ofNat ((mGet L3 a0)).toNat, true), (dP (lookE .i64 (vi a0) (mapE L3) = some (some (vi (mGet L3 a0)))), true), ((decide (a1 > (0 : Int))), true)]) (by kernel_rfl) (obs_cons (rowV_load (E := E_ii) (L := L2) (i := ((mGet L3 a0)).toNat) (q := 1) (by omega) (show ((0 + (((mGet L3 a0)).toNat * 2)) + 1) = ((mGet L3 a0)).toNat * 2 + 1 from by omega) (show 1 + 1 ≤ 2 from by decide) rfl rfl) <| oB <| oI <| obs_cons (dP_of (mp_some (by assumption))) <| oY obs_nil) rfl (by decide) (by rfl) rr ⟨⟨rfl, ⟨[], by rfl⟩, by rfl⟩, ⟨(same_row (E := E_ii) (α := R_ii) _ L2 _), ⟨(show mapV L3 = mapV L3 from rfl), trivial⟩⟩⟩
    ·
     exact fx_none
   ·
    exact fx_none
  ·
   exact fx_fin (r := (.r0 ((0 : Int)) (false) : rset_Rset_Has_2R)) (fu := 4000) (orc := (orcw [(1, true)] [] [] [] [(1, .lk (none))])) (live := [0, 1, 2]) (u := Value.tuple #[vq, vf]) (bl := [some (.cells [vi a1, vs 1 0 L2.length L2.length, Value.int .u32 (1 : Int), Value.int .i32 (0 : Int), Value.int .u32 (0 : Int), Value.map (some 2)] 64), some (.cells (rowV E_ii L2) 42), some (.ro (mapV L3) true)]) (ob := [(dP (lookE .i64 (vi a0) (mapE L3) = some (none)), true), ((decide (a1 > (0 : Int))), true)]) (by kernel_rfl) (obs_cons (dP_of (mp_none (by assumption))) <| oY obs_nil) rfl (by decide) (by rfl) rr ⟨⟨rfl, ⟨[], by rfl⟩, by rfl⟩, ⟨(same_row (E := E_ii) (α := R_ii) _ L2 _), ⟨(show mapV L3 = mapV L3 from rfl), trivial⟩⟩⟩
 ·
  exact fx_none

theorem rset_Rset_Has_2_spec (a0 a1 : Int) (L2 L3 : List R_ii) (N : Nat) (r : rset_Rset_Has_2R) (h : rset_Rset_Has_2 a0 a1 L2 L3 N = some r) : LSpec Try.prog 13 #[vp 0 0, vi a0] [.cells [vi a1, vs 1 0 L2.length L2.length, Value.int .u32 (1 : Int), Value.int .i32 (0 : Int), Value.int .u32 (0 : Int), Value.map (some 2)] 64, .cells (rowV E_ii L2) 42, .ro (mapV L3) true] (rset_Rset_Has_2V a0 a1 L2 L3 r) (rset_Rset_Has_2Po a0 a1 L2 L3 r) :=
 fx_spec fit_Sr Try.func13 (by kernel_rfl) (by kernel_rfl) (fun r => by cases r <;> exact le_far _ rfl) (rset_Rset_Has_2_fx a0 a1 L2 L3 N) h

noncomputable def rset_Rset_Has_2T0 (a0 a1 : Int) (L2 L3 : List R_ii) (w2 : Int) (w3 : Bool) (k0 k1 k2 n : Nat) : Told := .call [(k0, .cells [vi a1, vs k1 0 L2.length L2.length, Value.int .u32 (1 : Int), Value.int .i32 (0 : Int), Value.int .u32 (0 : Int), Value.map (some k2)] 64), (k1, .cells (rowV E_ii L2) 42), (k2, .ro (mapV L3) true)] (Value.tuple #[vi w2, Value.bool w3]) [] 0
def rset_Rset_Has_2P0 (A : Array Value) (a0 a1 : Int) (L2 L3 : List R_ii) (w2 : Int) (w3 : Bool) (k0 k1 k2 n : Nat) : Prop := CallSpec Try.prog 13 A [(k0, .cells [vi a1, vs k1 0 L2.length L2.length, Value.int .u32 (1 : Int), Value.int .i32 (0 : Int), Value.int .u32 (0 : Int), Value.map (some k2)] 64), (k1, .cells (rowV E_ii L2) 42), (k2, .ro (mapV L3) true)] (Value.tuple #[vi w2, Value.bool w3]) [] n 0

theorem rset_Rset_Has_2C0 (A : Array Value) (a0 a1 : Int) (L2 L3 : List R_ii) (w2 : Int) (w3 : Bool) (N : Nat) (h : rset_Rset_Has_2 a0 a1 L2 L3 N = some (.r0 w2 w3)) (k0 k1 k2 n : Nat) (hA : A = #[vp k0 0, vi a0]) (hnd : ([k0, k1, k2] : List Nat).Nodup) (hlt : ∀ k ∈ ([k0, k1, k2] : List Nat), k < n) : rset_Rset_Has_2P0 A a0 a1 L2 L3 w2 w3 k0 k1 k2 n :=
 cs_args hA (LSpec.callL (show LSpec Try.prog 13 #[vp 0 0, vi a0] [.cells [vi a1, vs 1 0 L2.length L2.length, Value.int .u32 (1 : Int), Value.int .i32 (0 : Int), Value.int .u32 (0 : Int), Value.map (some 2)] 64, .cells (rowV E_ii L2) 42, .ro (mapV L3) true] (Value.tuple #[vi w2, Value.bool w3]) [some (.cells [vi a1, vs 1 0 L2.length L2.length, Value.int .u32 (1 : Int), Value.int .i32 (0 : Int), Value.int .u32 (0 : Int), Value.map (some 2)] 64), some (.cells (rowV E_ii L2) 42), some (.ro (mapV L3) true)] from rset_Rset_Has_2_spec a0 a1 L2 L3 N _ h) [k0, k1, k2] n [] rfl hnd hlt (show 3 ≤ 3 from by decide) (show ∀ j ∈ ([] : List Nat), j < 3 from by decide) (by rfl) ⟨rfl, ⟨(under_row _ _ _), ⟨rfl, trivial⟩⟩⟩ (by rfl) ⟨rfl, ⟨(under_row _ _ _), ⟨rfl, trivial⟩⟩⟩ ⟨.inr rfl, ⟨.inr rfl, ⟨.inr rfl, trivial⟩⟩⟩ rfl rfl rfl (cons_eq (pair_eq rfl rfl) (cons_eq (pair_eq rfl (renO_row _ _ _)) (cons_eq (pair_eq rfl rfl) rfl))) rfl)

noncomputable def ref06_Has_2V (a0 : Int) (L1 : List R_ii) (a2 : Int) : ref06_Has_2R → Value
 | .r0 w1 w2 => Value.tuple #[vi w1, Value.bool w2]
noncomputable def ref06_Has_2Po (a0 : Int) (L1 : List R_ii) (a2 : Int) : ref06_Has_2R → List (Option AObj)
 | .r0 w1 w2 => [some (.cells (rowV E_ii L1) 42)]

def ref06_Has_2Hd : ref06_Has_2X → Nat
 | .h1m0 v2 => 1
noncomputable def ref06_Has_2L (a0 : Int) (L1 : List R_ii) (a2 : Int) : ref06_Has_2X → List (Nat × Value)
 | .h1m0 v2 => [(1, vi a2), (2, vp 1 0), (6, vi (v2 : Int))]
noncomputable def ref06_Has_2H (a0 : Int) (L1 : List R_ii) (a2 : Int) : ref06_Has_2X → List (Option AObj)
 | .h1m0 v2 => [some (.cells (rowV E_ii L1) 42), some (.cells [vi a0, vs 0 0 L1.length L1.length] 29)]

noncomputable def ref06_Has_2C : Nat → Code × List Kont
 | 1 => headOf [1, 0, 1, 3] (bodyC Try.f14) []
 | _ => (.skip, [])
def ref06_Has_2IL : Nat → Bool
 | 1 => true
 | _ => true
noncomputable def ref06_Has_2K (i : Nat) : List Kont := match ref06_Has_2IL i with | true => .rnd i :: (ref06_Has_2C i).2 | false => (ref06_Has_2C i).2

noncomputable def ref06_Has_2M (a0 : Int) (L1 : List R_ii) (a2 : Int) (N : Nat) : Mach := ⟨Try.f14, [.cells (rowV E_ii L1) 42], ref06_Has_2X, ref06_Has_2R, ref06_Has_2Step a0 L1 a2 N, ref06_Has_2Hd, ref06_Has_2C, ref06_Has_2IL, ref06_Has_2L a0 L1 a2, ref06_Has_2H a0 L1 a2, ref06_Has_2V a0 L1 a2, ref06_Has_2Po a0 L1 a2⟩

theorem ref06_Has_2_ok1_0 (a0 : Int) (L1 : List R_ii) (a2 : Int) (v2 N : Nat) : (ref06_Has_2M a0 L1 a2 N).Ok Try.prog ext_Sr (.h1m0 v2 : ref06_Has_2X) (ref06_Has_2Step a0 L1 a2 N (.h1m0 v2 : ref06_Has_2X)) := by
 show (ref06_Has_2M a0 L1 a2 N).Ok Try.prog ext_Sr (.h1m0 v2 : ref06_Has_2X) (ref06_Has_2_h1m0 a0 L1 a2 N v2)
 unfold ref06_Has_2_h1m0
 refine Mach.ok_ite (fun g0 => ?_) (fun g0 => ?_)
 ·
  refine Mach.ok_ite (fun g1 => ?_) (fun g1 => ?_)
  ·
   exact Mach.ok_fin (M := ref06_Has_2M a0 L1 a2 N) (cd := 1000000) (cm := 0) (r := (.r0 ((L1.getD v2 R_ii.z).a1) (true) : ref06_Has_2R)) (fu := 4000) (orc := (orcw [(0, true), (1, true)] [] [(0, v2), (1, v2)] [(2, [.i (L1.getD v2 R_ii.z).a0]), (4, [.i (L1.getD v2 R_ii.z).a1])] [])) (live := [0]) (u := Value.tuple #[vi (L1.getD v2 R_ii.z).a1, vT]) (bl := [some (.cells (rowV E_ii L1) 42)]) (ob := [(sameR (takeN 1 (List.drop ((0 + (v2 * 2)) + 1) (rowV E_ii L1))) [.i (L1.getD v2 R_ii.z).a1], true), (Nat.blt v2 L1.length, true), ((v2 : Int) == Int.ofNat v2, true), (((L1.getD v2 R_ii.z).a0 == a2), true), (sameR (takeN 1 (List.drop ((0 + (v2 * 2)) + 0) (rowV E_ii L1))) [.i (L1.getD v2 R_ii.z).a0], true), (Nat.blt v2 L1.length, true), ((v2 : Int) == Int.ofNat v2, true), ((decide ((v2 : Int) < ((L1.length : Nat) : Int))), true)]) (fun gv => by kernel_rfl) (obs_cons (rowV_load (E := E_ii) (L := L1) (i := v2) (q := 1) (by omega) (show ((0 + (v2 * 2)) + 1) = v2 * 2 + 1 from by omega) (show 1 + 1 ≤ 2 from by decide) rfl rfl) <| oB <| oI <| oT <| obs_cons (rowV_load (E := E_ii) (L := L1) (i := v2) (q := 0) (by omega) (show ((0 + (v2 * 2)) + 0) = v2 * 2 + 0 from by omega) (show 0 + 1 ≤ 2 from by decide) rfl rfl) <| oB <| oI <| oY obs_nil) rfl (by decide) (by rfl) rr ⟨(same_row (E := E_ii) (α := R_ii) _ L1 _), trivial⟩
  ·
   refine Mach.ok_ite (fun g2 => ?_) (fun g2 => ?_)
   ·
    exact Mach.ok_next (M := ref06_Has_2M a0 L1 a2 N) (cd := 1000000) (cm := 0) (y := (.h1m0 ((v2 + 1)) : ref06_Has_2X)) (fu := 4000) (orc := (orcw [(0, true), (1, false)] [(0, (((v2 + 1) : Nat) : Int))] [(0, v2)] [(2, [.i (L1.getD v2 R_ii.z).a0])] [])) (live := [0, 1]) (tv := fun _ => [some (vi a2), some (vp 1 0), some (vi (((v2 + 1) : Nat) : Int))]) (bl := [some (.cells (rowV E_ii L1) 42), some (.cells [vi a0, vs 0 0 L1.length L1.length] 29)]) (ob := [((IntKind.i64.wrap ((v2 : Int) + (1 : Int))) == (((v2 + 1) : Nat) : Int), true), (((L1.getD v2 R_ii.z).a0 == a2), false), (sameR (takeN 1 (List.drop ((0 + (v2 * 2)) + 0) (rowV E_ii L1))) [.i (L1.getD v2 R_ii.z).a0], true), (Nat.blt v2 L1.length, true), ((v2 : Int) == Int.ofNat v2, true), ((decide ((v2 : Int) < ((L1.length : Nat) : Int))), true)]) rfl (show 1 ∈ rids (ref06_Has_2K 1) from by decide +kernel) (fun gv => by kernel_rfl) (obs_cons (beq_iff_eq.2 ((wrap_i64 ltA).trans (by first | rfl | omega))) <| oF <| obs_cons (rowV_load (E := E_ii) (L := L1) (i := v2) (q := 0) (by omega) (show ((0 + (v2 * 2)) + 0) = v2 * 2 + 0 from by omega) (show 0 + 1 ≤ 2 from by decide) rfl rfl) <| oB <| oI <| oY obs_nil) rfl (by decide) (by rfl) (fun _ => ⟨rr, ⟨rr, ⟨rr, trivial⟩⟩⟩) ⟨(same_row (E := E_ii) (α := R_ii) _ L1 _), ⟨⟨rfl, ⟨[], by rfl⟩, by rfl⟩, trivial⟩⟩
   ·
    exact Mach.ok_none
 ·
  exact Mach.ok_fin (M := ref06_Has_2M a0 L1 a2 N) (cd := 1000000) (cm := 0) (r := (.r0 ((0 : Int)) (false) : ref06_Has_2R)) (fu := 4000) (orc := (orcw [(0, false)] [] [] [] [])) (live := [0]) (u := Value.tuple #[vq, vf]) (bl := [some (.cells (rowV E_ii L1) 42)]) (ob := [((decide ((v2 : Int) < ((L1.length : Nat) : Int))), false)]) (fun gv => by kernel_rfl) (oN obs_nil) rfl (by decide) (by rfl) rr ⟨(same_row (E := E_ii) (α := R_ii) _ L1 _), trivial⟩

theorem ref06_Has_2_en (a0 : Int) (L1 : List R_ii) (a2 : Int) (N : Nat) : (ref06_Has_2M a0 L1 a2 N).Enter Try.prog ext_Sr #[Value.agg #[vi a0, vs 0 0 L1.length L1.length], vi a2] (ref06_Has_2In a0 L1 a2 N) := by
 unfold ref06_Has_2In
 exact Mach.en_head (bK := ref06_Has_2C 1) (M := ref06_Has_2M a0 L1 a2 N) (cd := 1000000) (cm := 0) (y := (.h1m0 (0) : ref06_Has_2X)) (fu := 4000) (orc := (orcw [] [] [] [] [])) (live := [0, 1]) (tv := [some (vi a2), some (vp 1 0), some (vq)]) (bl := [some (.cells (rowV E_ii L1) 42), some (.cells [vi a0, vs 0 0 L1.length L1.length] 29)]) (ob := []) rfl rfl (show rids (ref06_Has_2C 1).2 = [] from rfl) (by kernel_rfl) obs_nil rfl (by decide) (by rfl) ⟨rr, ⟨rr, ⟨⟨Eq.trans (show (vi ((0 : Nat) : Int) : Value) = vq from (congrArg (Value.int .i64) (by first | rfl | omega))) (by rfl), by rfl⟩, trivial⟩⟩⟩ ⟨(same_row (E := E_ii) (α := R_ii) _ L1 _), ⟨⟨rfl, ⟨[], by rfl⟩, by rfl⟩, trivial⟩⟩

theorem ref06_Has_2_spec (a0 : Int) (L1 : List R_ii) (a2 : Int) (N : Nat) (r : ref06_Has_2R) (h : ref06_Has_2 a0 L1 a2 N = some r) : LSpec Try.prog 14 #[Value.agg #[vi a0, vs 0 0 L1.length L1.length], vi a2] [.cells (rowV E_ii L1) 42] (ref06_Has_2V a0 L1 a2 r) (ref06_Has_2Po a0 L1 a2 r) :=
 Mach.spec fit_Sr (ref06_Has_2M a0 L1 a2 N) Try.func14 (by kernel_rfl) (by kernel_rfl) (fun x => by cases x <;> exact le_far _ rfl) (fun r => by cases r <;> exact le_far _ rfl) (fun x => by
  cases x with
  | h1m0 _ => exact fun _ => (show ¬ (1 ∈ rids (ref06_Has_2C 1).2) from by decide +kernel)
  ) (fun x => (show (ref06_Has_2M a0 L1 a2 N).Ok Try.prog ext_Sr x (ref06_Has_2Step a0 L1 a2 N x) from by
  cases x with
  | h1m0 v2 => exact ref06_Has_2_ok1_0 a0 L1 a2 v2 N
  )) (ref06_Has_2_en a0 L1 a2 N) (n := N) h

noncomputable def ref06_Has_2T0 (a0 : Int) (L1 : List R_ii) (a2 w1 : Int) (w2 : Bool) (k0 n : Nat) : Told := .call [(k0, .cells (rowV E_ii L1) 42)] (Value.tuple #[vi w1, Value.bool w2]) [] 0
def ref06_Has_2P0 (A : Array Value) (a0 : Int) (L1 : List R_ii) (a2 w1 : Int) (w2 : Bool) (k0 n : Nat) : Prop := CallSpec Try.prog 14 A [(k0, .cells (rowV E_ii L1) 42)] (Value.tuple #[vi w1, Value.bool w2]) [] n 0

theorem ref06_Has_2C0 (A : Array Value) (a0 : Int) (L1 : List R_ii) (a2 w1 : Int) (w2 : Bool) (N : Nat) (h : ref06_Has_2 a0 L1 a2 N = some (.r0 w1 w2)) (k0 n : Nat) (hA : A = #[Value.agg #[vi a0, vs k0 0 L1.length L1.length], vi a2]) (hnd : ([k0] : List Nat).Nodup) (hlt : ∀ k ∈ ([k0] : List Nat), k < n) : ref06_Has_2P0 A a0 L1 a2 w1 w2 k0 n :=
 cs_args hA (LSpec.callL (show LSpec Try.prog 14 #[Value.agg #[vi a0, vs 0 0 L1.length L1.length], vi a2] [.cells (rowV E_ii L1) 42] (Value.tuple #[vi w1, Value.bool w2]) [some (.cells (rowV E_ii L1) 42)] from ref06_Has_2_spec a0 L1 a2 N _ h) [k0] n [] rfl hnd hlt (show 1 ≤ 1 from by decide) (show ∀ j ∈ ([] : List Nat), j < 1 from by decide) (by rfl) ⟨(under_row _ _ _), trivial⟩ (by rfl) ⟨(under_row _ _ _), trivial⟩ ⟨.inr rfl, trivial⟩ rfl rfl rfl (cons_eq (pair_eq rfl (renO_row _ _ _)) rfl) rfl)

noncomputable def rset_Rset_At_2V (a0 a1 : Int) (L2 L3 : List R_ii) : rset_Rset_At_2R → Value
 | .r0 w2 w3 w4 => Value.tuple #[Value.agg #[vi w2, vi w3], Value.bool w4]
noncomputable def rset_Rset_At_2Po (a0 a1 : Int) (L2 L3 : List R_ii) : rset_Rset_At_2R → List (Option AObj)
 | .r0 w2 w3 w4 => [some (.cells [vi a1, vs 1 0 L2.length L2.length, Value.int .u32 (1 : Int), Value.int .i32 (0 : Int), Value.int .u32 (0 : Int), Value.map (some 2)] 64), some (.cells (rowV E_ii L2) 42), some (.ro (mapV L3) true)]

theorem rset_Rset_At_2_fx (a0 a1 : Int) (L2 L3 : List R_ii) (N : Nat) : Fx Try.prog ext_Sr Try.f15 [.cells [vi a1, vs 1 0 L2.length L2.length, Value.int .u32 (1 : Int), Value.int .i32 (0 : Int), Value.int .u32 (0 : Int), Value.map (some 2)] 64, .cells (rowV E_ii L2) 42, .ro (mapV L3) true] #[vp 0 0, vi a0] (rset_Rset_At_2V a0 a1 L2 L3) (rset_Rset_At_2Po a0 a1 L2 L3) (rset_Rset_At_2 a0 a1 L2 L3 N) := by
 unfold rset_Rset_At_2
 refine fx_ite (fun g0 => ?_) (fun g0 => ?_)
 ·
  exact fx_fin (r := (.r0 ((0 : Int)) ((0 : Int)) (false) : rset_Rset_At_2R)) (fu := 4000) (orc := (orcw [(0, true)] [] [] [] [])) (live := [0, 1, 2]) (u := Value.tuple #[Value.agg #[vq, vq], vf]) (bl := [some (.cells [vi a1, vs 1 0 L2.length L2.length, Value.int .u32 (1 : Int), Value.int .i32 (0 : Int), Value.int .u32 (0 : Int), Value.map (some 2)] 64), some (.cells (rowV E_ii L2) 42), some (.ro (mapV L3) true)]) (ob := [((decide (a0 < (0 : Int))), true)]) (by kernel_rfl) (oY obs_nil) rfl (by decide) (by rfl) rr ⟨⟨rfl, ⟨[], by rfl⟩, by rfl⟩, ⟨(same_row (E := E_ii) (α := R_ii) _ L2 _), ⟨(show mapV L3 = mapV L3 from rfl), trivial⟩⟩⟩
 ·
  refine fx_ite (fun g1 => ?_) (fun g1 => ?_)
  ·
   refine fx_ite (fun g2 => ?_) (fun g2 => ?_)
   ·
    exact fx_fin (r := (.r0 ((0 : Int)) ((0 : Int)) (false) : rset_Rset_At_2R)) (fu := 4000) (orc := (orcw [(0, false), (2, true), (4, true)] [] [] [] [])) (live := [0, 1, 2]) (u := Value.tuple #[Value.agg #[vq, vq], vf]) (bl := [some (.cells [vi a1, vs 1 0 L2.length L2.length, Value.int .u32 (1 : Int), Value.int .i32 (0 : Int), Value.int .u32 (0 : Int), Value.map (some 2)] 64), some (.cells (rowV E_ii L2) 42), some (.ro (mapV L3) true)]) (ob := [((decide (a0 ≥ ((L2.length : Nat) : Int))), true), ((decide (a1 > (0 : Int))), true), ((decide (a0 < (0 : Int))), false)]) (by kernel_rfl) (oY <| oY <| oN obs_nil) rfl (by decide) (by rfl) rr ⟨⟨rfl, ⟨[], by rfl⟩, by rfl⟩, ⟨(same_row (E := E_ii) (α := R_ii) _ L2 _), ⟨(show mapV L3 = mapV L3 from rfl), trivial⟩⟩⟩
   ·
    exact fx_fin (r := (.r0 ((L2.getD (a0).toNat R_ii.z).a0) ((L2.getD (a0).toNat R_ii.z).a1) (true) : rset_Rset_At_2R)) (fu := 4000) (orc := (orcw [(0, false), (2, true), (4, false)] [] [(0, (a0).toNat)] [(3, [.i (L2.getD (a0).toNat R_ii.z).a0, .i (L2.getD (a0).toNat R_ii.z).a1])] [])) (live := [0, 1, 2]) (u := Value.tuple #[Value.agg #[vi (L2.getD (a0).toNat R_ii.z).a0, vi (L2.getD (a0).toNat R_ii.z).a1], vT]) (bl := [some (.cells [vi a1, vs 1 0 L2.length L2.length, Value.int .u32 (1 : Int), Value.int .i32 (0 : Int), Value.int .u32 (0 : Int), Value.map (some 2)] 64), some (.cells (rowV E_ii L2) 42), some (.ro (mapV L3) true)]) (ob := [(sameR (takeN 2 (List.drop (0 + ((a0).toNat * 2)) (rowV E_ii L2))) [.i (L2.getD (a0).toNat R_ii.z).a0, .i (L2.getD (a0).toNat R_ii.z).a1], true), (Nat.blt (a0).toNat L2.length, true), (a0 == Int.ofNat (a0).toNat, true), ((decide (a0 ≥ ((L2.length : Nat) : Int))), false), ((decide (a1 > (0 : Int))), true), ((decide (a0 < (0 : Int))), false)]) (by kernel_rfl) (obs_cons (rowV_load (E := E_ii) (L := L2) (i := (a0).toNat) (q := 0) (by omega) (show (0 + ((a0).toNat * 2)) = (a0).toNat * 2 + 0 from by omega) (show 0 + 2 ≤ 2 from by decide) rfl rfl) <| oB <| oI <| oN <| oY <| oN obs_nil) rfl (by decide) (by rfl) rr ⟨⟨rfl, ⟨[], by rfl⟩, by rfl⟩, ⟨(same_row (E := E_ii) (α := R_ii) _ L2 _), ⟨(show mapV L3 = mapV L3 from rfl), trivial⟩⟩⟩
  ·
   exact fx_none

theorem rset_Rset_At_2_spec (a0 a1 : Int) (L2 L3 : List R_ii) (N : Nat) (r : rset_Rset_At_2R) (h : rset_Rset_At_2 a0 a1 L2 L3 N = some r) : LSpec Try.prog 15 #[vp 0 0, vi a0] [.cells [vi a1, vs 1 0 L2.length L2.length, Value.int .u32 (1 : Int), Value.int .i32 (0 : Int), Value.int .u32 (0 : Int), Value.map (some 2)] 64, .cells (rowV E_ii L2) 42, .ro (mapV L3) true] (rset_Rset_At_2V a0 a1 L2 L3 r) (rset_Rset_At_2Po a0 a1 L2 L3 r) :=
 fx_spec fit_Sr Try.func15 (by kernel_rfl) (by kernel_rfl) (fun r => by cases r <;> exact le_far _ rfl) (rset_Rset_At_2_fx a0 a1 L2 L3 N) h

noncomputable def rset_Rset_At_2T0 (a0 a1 : Int) (L2 L3 : List R_ii) (w2 w3 : Int) (w4 : Bool) (k0 k1 k2 n : Nat) : Told := .call [(k0, .cells [vi a1, vs k1 0 L2.length L2.length, Value.int .u32 (1 : Int), Value.int .i32 (0 : Int), Value.int .u32 (0 : Int), Value.map (some k2)] 64), (k1, .cells (rowV E_ii L2) 42), (k2, .ro (mapV L3) true)] (Value.tuple #[Value.agg #[vi w2, vi w3], Value.bool w4]) [] 0
def rset_Rset_At_2P0 (A : Array Value) (a0 a1 : Int) (L2 L3 : List R_ii) (w2 w3 : Int) (w4 : Bool) (k0 k1 k2 n : Nat) : Prop := CallSpec Try.prog 15 A [(k0, .cells [vi a1, vs k1 0 L2.length L2.length, Value.int .u32 (1 : Int), Value.int .i32 (0 : Int), Value.int .u32 (0 : Int), Value.map (some k2)] 64), (k1, .cells (rowV E_ii L2) 42), (k2, .ro (mapV L3) true)] (Value.tuple #[Value.agg #[vi w2, vi w3], Value.bool w4]) [] n 0

theorem rset_Rset_At_2C0 (A : Array Value) (a0 a1 : Int) (L2 L3 : List R_ii) (w2 w3 : Int) (w4 : Bool) (N : Nat) (h : rset_Rset_At_2 a0 a1 L2 L3 N = some (.r0 w2 w3 w4)) (k0 k1 k2 n : Nat) (hA : A = #[vp k0 0, vi a0]) (hnd : ([k0, k1, k2] : List Nat).Nodup) (hlt : ∀ k ∈ ([k0, k1, k2] : List Nat), k < n) : rset_Rset_At_2P0 A a0 a1 L2 L3 w2 w3 w4 k0 k1 k2 n :=
 cs_args hA (LSpec.callL (show LSpec Try.prog 15 #[vp 0 0, vi a0] [.cells [vi a1, vs 1 0 L2.length L2.length, Value.int .u32 (1 : Int), Value.int .i32 (0 : Int), Value.int .u32 (0 : Int), Value.map (some 2)] 64, .cells (rowV E_ii L2) 42, .ro (mapV L3) true] (Value.tuple #[Value.agg #[vi w2, vi w3], Value.bool w4]) [some (.cells [vi a1, vs 1 0 L2.length L2.length, Value.int .u32 (1 : Int), Value.int .i32 (0 : Int), Value.int .u32 (0 : Int), Value.map (some 2)] 64), some (.cells (rowV E_ii L2) 42), some (.ro (mapV L3) true)] from rset_Rset_At_2_spec a0 a1 L2 L3 N _ h) [k0, k1, k2] n [] rfl hnd hlt (show 3 ≤ 3 from by decide) (show ∀ j ∈ ([] : List Nat), j < 3 from by decide) (by rfl) ⟨rfl, ⟨(under_row _ _ _), ⟨rfl, trivial⟩⟩⟩ (by rfl) ⟨rfl, ⟨(under_row _ _ _), ⟨rfl, trivial⟩⟩⟩ ⟨.inr rfl, ⟨.inr rfl, ⟨.inr rfl, trivial⟩⟩⟩ rfl rfl rfl (cons_eq (pair_eq rfl rfl) (cons_eq (pair_eq rfl (renO_row _ _ _)) (cons_eq (pair_eq rfl rfl) rfl))) rfl)

noncomputable def ref06_Same_2V (L0 L1 : List R_ii) : ref06_Same_2R → Value
 | .r0 w2 => Value.bool w2
noncomputable def ref06_Same_2Po (L0 L1 : List R_ii) : ref06_Same_2R → List (Option AObj)
 | .r0 w2 => [some (.cells (rowV E_ii L0) 42), some (.cells (rowV E_ii L1) 42)]

def ref06_Same_2Hd : ref06_Same_2X → Nat
 | .h1m0 v2 => 1
noncomputable def ref06_Same_2L (L0 L1 : List R_ii) : ref06_Same_2X → List (Nat × Value)
 | .h1m0 v2 => [(0, vs 0 0 L0.length L0.length), (1, vs 1 0 L1.length L1.length), (5, vi (v2 : Int))]
noncomputable def ref06_Same_2H (L0 L1 : List R_ii) : ref06_Same_2X → List (Option AObj)
 | .h1m0 v2 => [some (.cells (rowV E_ii L0) 42), some (.cells (rowV E_ii L1) 42)]

noncomputable def ref06_Same_2C : Nat → Code × List Kont
 | 1 => headOf [1, 1, 0, 1, 3] (bodyC Try.f17) []
 | _ => (.skip, [])
def ref06_Same_2IL : Nat → Bool
 | 1 => true
 | _ => true
noncomputable def ref06_Same_2K (i : Nat) : List Kont := match ref06_Same_2IL i with | true => .rnd i :: (ref06_Same_2C i).2 | false => (ref06_Same_2C i).2

noncomputable def ref06_Same_2M (L0 L1 : List R_ii) (N : Nat) : Mach := ⟨Try.f17, [.cells (rowV E_ii L0) 42, .cells (rowV E_ii L1) 42], ref06_Same_2X, ref06_Same_2R, ref06_Same_2Step L0 L1 N, ref06_Same_2Hd, ref06_Same_2C, ref06_Same_2IL, ref06_Same_2L L0 L1, ref06_Same_2H L0 L1, ref06_Same_2V L0 L1, ref06_Same_2Po L0 L1⟩

theorem ref06_Same_2_ok1_0 (L0 L1 : List R_ii) (v2 N : Nat) : (ref06_Same_2M L0 L1 N).Ok Try.prog ext_Sr (.h1m0 v2 : ref06_Same_2X) (ref06_Same_2Step L0 L1 N (.h1m0 v2 : ref06_Same_2X)) := by
 show (ref06_Same_2M L0 L1 N).Ok Try.prog ext_Sr (.h1m0 v2 : ref06_Same_2X) (ref06_Same_2_h1m0 L0 L1 N v2)
 unfold ref06_Same_2_h1m0
 refine Mach.ok_ite (fun g0 => ?_) (fun g0 => ?_)
 ·
  refine Mach.ok_ite (fun g1 => ?_) (fun g1 => ?_)
  ·
   refine Mach.ok_ite (fun g2 => ?_) (fun g2 => ?_)
   ·
    exact Mach.ok_fin (M := ref06_Same_2M L0 L1 N) (cd := 1000000) (cm := 0) (r := (.r0 (false) : ref06_Same_2R)) (fu := 4000) (orc := (orcw [(0, true), (1, true)] [] [(0, v2), (1, v2)] [(0, [.i (L0.getD v2 R_ii.z).a0, .i (L0.getD v2 R_ii.z).a1]), (1, [.i (L1.getD v2 R_ii.z).a0, .i (L1.getD v2 R_ii.z).a1])] [])) (live := [0, 1]) (u := vf) (bl := [some (.cells (rowV E_ii L0) 42), some (.cells (rowV E_ii L1) 42)]) (ob := [((!(((L0.getD v2 R_ii.z).a0 == (L1.getD v2 R_ii.z).a0) && (((L0.getD v2 R_ii.z).a1 == (L1.getD v2 R_ii.z).a1) && true))), true), (sameR (takeN 2 (List.drop (0 + (v2 * 2)) (rowV E_ii L1))) [.i (L1.getD v2 R_ii.z).a0, .i (L1.getD v2 R_ii.z).a1], true), (Nat.blt v2 L1.length, true), ((v2 : Int) == Int.ofNat v2, true), (sameR (takeN 2 (List.drop (0 + (v2 * 2)) (rowV E_ii L0))) [.i (L0.getD v2 R_ii.z).a0, .i (L0.getD v2 R_ii.z).a1], true), (Nat.blt v2 L0.length, true), ((v2 : Int) == Int.ofNat v2, true), ((decide ((v2 : Int) < ((L0.length : Nat) : Int))), true)]) (fun gv => by kernel_rfl) (obs_cons (by rw [Bool.not_eq_true']; exact Bool.eq_false_iff.2 (by simp only [ne_eq, Bool.and_true, Bool.and_eq_true, beq_iff_eq]; first | omega | (intro hh; simp_all; done) | (intro hh; grind))) <| obs_cons (rowV_load (E := E_ii) (L := L1) (i := v2) (q := 0) (by omega) (show (0 + (v2 * 2)) = v2 * 2 + 0 from by omega) (show 0 + 2 ≤ 2 from by decide) rfl rfl) <| oB <| oI <| obs_cons (rowV_load (E := E_ii) (L := L0) (i := v2) (q := 0) (by omega) (show (0 + (v2 * 2)) = v2 * 2 + 0 from by omega) (show 0 + 2 ≤ 2 from by decide) rfl rfl) <| oB <| oI <| oY obs_nil) rfl (by decide) (by rfl) rr ⟨(same_row (E := E_ii) (α := R_ii) _ L0 _), ⟨(same_row (E := E_ii) (α := R_ii) _ L1 _), trivial⟩⟩
   ·
    refine Mach.ok_ite (fun g3 => ?_) (fun g3 => ?_)
    ·
     exact Mach.ok_next (M := ref06_Same_2M L0 L1 N) (cd := 1000000) (cm := 0) (y := (.h1m0 ((v2 + 1)) : ref06_Same_2X)) (fu := 4000) (orc := (orcw [(0, true), (1, false)] [(0, (((v2 + 1) : Nat) : Int))] [(0, v2), (1, v2)] [(0, [.i (L0.getD v2 R_ii.z).a0, .i (L0.getD v2 R_ii.z).a1]), (1, [.i (L1.getD v2 R_ii.z).a0, .i (L1.getD v2 R_ii.z).a1])] [])) (live := [0, 1]) (tv := fun _ => [some (vs 0 0 L0.length L0.length), some (vs 1 0 L1.length L1.length), some (vi (((v2 + 1) : Nat) : Int))]) (bl := [some (.cells (rowV E_ii L0) 42), some (.cells (rowV E_ii L1) 42)]) (ob := [((IntKind.i64.wrap ((v2 : Int) + (1 : Int))) == (((v2 + 1) : Nat) : Int), true), ((!(((L0.getD v2 R_ii.z).a0 == (L1.getD v2 R_ii.z).a0) && (((L0.getD v2 R_ii.z).a1 == (L1.getD v2 R_ii.z).a1) && true))), false), (sameR (takeN 2 (List.drop (0 + (v2 * 2)) (rowV E_ii L1))) [.i (L1.getD v2 R_ii.z).a0, .i (L1.getD v2 R_ii.z).a1], true), (Nat.blt v2 L1.length, true), ((v2 : Int) == Int.ofNat v2, true), (sameR (takeN 2 (List.drop (0 + (v2 * 2)) (rowV E_ii L0))) [.i (L0.getD v2 R_ii.z).a0, .i (L0.getD v2 R_ii.z).a1], true), (Nat.blt v2 L0.length, true), ((v2 : Int) == Int.ofNat v2, true), ((decide ((v2 : Int) < ((L0.length : Nat) : Int))), true)]) rfl (show 1 ∈ rids (ref06_Same_2K 1) from by decide +kernel) (fun gv => by kernel_rfl) (obs_cons (beq_iff_eq.2 ((wrap_i64 ltA).trans (by first | rfl | omega))) <| obs_cons (by rw [Bool.not_eq_false']; first | (simp only [beq_self_eq_true, Bool.and_self]; done) | (simp only [Bool.and_true, Bool.and_eq_true, beq_iff_eq] <;> first | omega | (simp_all; done) | grind)) <| obs_cons (rowV_load (E := E_ii) (L := L1) (i := v2) (q := 0) (by omega) (show (0 + (v2 * 2)) = v2 * 2 + 0 from by omega) (show 0 + 2 ≤ 2 from by decide) rfl rfl) <| oB <| oI <| obs_cons (rowV_load (E := E_ii) (L := L0) (i := v2) (q := 0) (by omega) (show (0 + (v2 * 2)) = v2 * 2 + 0 from by omega) (show 0 + 2 ≤ 2 from by decide) rfl rfl) <| oB <| oI <| oY obs_nil) rfl (by decide) (by rfl) (fun _ => ⟨rr, ⟨rr, ⟨rr, trivial⟩⟩⟩) ⟨(same_row (E := E_ii) (α := R_ii) _ L0 _), ⟨(same_row (E := E_ii) (α := R_ii) _ L1 _), trivial⟩⟩
    ·
     exact Mach.ok_none
  ·
   exact Mach.ok_none
 ·
  exact Mach.ok_fin (M := ref06_Same_2M L0 L1 N) (cd := 1000000) (cm := 0) (r := (.r0 (true) : ref06_Same_2R)) (fu := 4000) (orc := (orcw [(0, false)] [] [] [] [])) (live := [0, 1]) (u := vT) (bl := [some (.cells (rowV E_ii L0) 42), some (.cells (rowV E_ii L1) 42)]) (ob := [((decide ((v2 : Int) < ((L0.length : Nat) : Int))), false)]) (fun gv => by kernel_rfl) (oN obs_nil) rfl (by decide) (by rfl) rr ⟨(same_row (E := E_ii) (α := R_ii) _ L0 _), ⟨(same_row (E := E_ii) (α := R_ii) _ L1 _), trivial⟩⟩

theorem ref06_Same_2_en (L0 L1 : List R_ii) (N : Nat) : (ref06_Same_2M L0 L1 N).Enter Try.prog ext_Sr #[vs 0 0 L0.length L0.length, vs 1 0 L1.length L1.length] (ref06_Same_2In L0 L1 N) := by
 unfold ref06_Same_2In
 refine Mach.en_ite (fun g0 => ?_) (fun g0 => ?_)
 ·
  exact Mach.en_fin (M := ref06_Same_2M L0 L1 N) (cd := 1000000) (cm := 0) (r := (.r0 (false) : ref06_Same_2R)) (fu := 4000) (orc := (orcw [(0, true)] [] [] [] [])) (live := [0, 1]) (u := vf) (bl := [some (.cells (rowV E_ii L0) 42), some (.cells (rowV E_ii L1) 42)]) (ob := [((((L0.length : Nat) : Int) != ((L1.length : Nat) : Int)), true)]) (by kernel_rfl) (oD obs_nil) rfl (by decide) (by rfl) rr ⟨(same_row (E := E_ii) (α := R_ii) _ L0 _), ⟨(same_row (E := E_ii) (α := R_ii) _ L1 _), trivial⟩⟩
 ·
  exact Mach.en_head (bK := ref06_Same_2C 1) (M := ref06_Same_2M L0 L1 N) (cd := 1000000) (cm := 0) (y := (.h1m0 (0) : ref06_Same_2X)) (fu := 4000) (orc := (orcw [(0, false)] [] [] [] [])) (live := [0, 1]) (tv := [some (vs 0 0 L0.length L0.length), some (vs 1 0 L1.length L1.length), some (vq)]) (bl := [some (.cells (rowV E_ii L0) 42), some (.cells (rowV E_ii L1) 42)]) (ob := [((((L0.length : Nat) : Int) != ((L1.length : Nat) : Int)), false)]) rfl rfl (show rids (ref06_Same_2C 1).2 = [] from rfl) (by kernel_rfl) (oE obs_nil) rfl (by decide) (by rfl) ⟨rr, ⟨rr, ⟨⟨Eq.trans (show (vi ((0 : Nat) : Int) : Value) = vq from (congrArg (Value.int .i64) (by first | rfl | omega))) (by rfl), by rfl⟩, trivial⟩⟩⟩ ⟨(same_row (E := E_ii) (α := R_ii) _ L0 _), ⟨(same_row (E := E_ii) (α := R_ii) _ L1 _), trivial⟩⟩

theorem ref06_Same_2_spec (L0 L1 : List R_ii) (N : Nat) (r : ref06_Same_2R) (h : ref06_Same_2 L0 L1 N = some r) : LSpec Try.prog 17 #[vs 0 0 L0.length L0.length, vs 1 0 L1.length L1.length] [.cells (rowV E_ii L0) 42, .cells (rowV E_ii L1) 42] (ref06_Same_2V L0 L1 r) (ref06_Same_2Po L0 L1 r) :=
 Mach.spec fit_Sr (ref06_Same_2M L0 L1 N) Try.func17 (by kernel_rfl) (by kernel_rfl) (fun x => by cases x <;> exact le_far _ rfl) (fun r => by cases r <;> exact le_far _ rfl) (fun x => by
  cases x with
  | h1m0 _ => exact fun _ => (show ¬ (1 ∈ rids (ref06_Same_2C 1).2) from by decide +kernel)
  ) (fun x => (show (ref06_Same_2M L0 L1 N).Ok Try.prog ext_Sr x (ref06_Same_2Step L0 L1 N x) from by
  cases x with
  | h1m0 v2 => exact ref06_Same_2_ok1_0 L0 L1 v2 N
  )) (ref06_Same_2_en L0 L1 N) (n := N) h

noncomputable def ref06_Same_2T0 (L0 L1 : List R_ii) (w2 : Bool) (k0 k1 n : Nat) : Told := .call [(k0, .cells (rowV E_ii L0) 42), (k1, .cells (rowV E_ii L1) 42)] (Value.bool w2) [] 0
def ref06_Same_2P0 (A : Array Value) (L0 L1 : List R_ii) (w2 : Bool) (k0 k1 n : Nat) : Prop := CallSpec Try.prog 17 A [(k0, .cells (rowV E_ii L0) 42), (k1, .cells (rowV E_ii L1) 42)] (Value.bool w2) [] n 0

theorem ref06_Same_2C0 (A : Array Value) (L0 L1 : List R_ii) (w2 : Bool) (N : Nat) (h : ref06_Same_2 L0 L1 N = some (.r0 w2)) (k0 k1 n : Nat) (hA : A = #[vs k0 0 L0.length L0.length, vs k1 0 L1.length L1.length]) (hnd : ([k0, k1] : List Nat).Nodup) (hlt : ∀ k ∈ ([k0, k1] : List Nat), k < n) : ref06_Same_2P0 A L0 L1 w2 k0 k1 n :=
 cs_args hA (LSpec.callL (show LSpec Try.prog 17 #[vs 0 0 L0.length L0.length, vs 1 0 L1.length L1.length] [.cells (rowV E_ii L0) 42, .cells (rowV E_ii L1) 42] (Value.bool w2) [some (.cells (rowV E_ii L0) 42), some (.cells (rowV E_ii L1) 42)] from ref06_Same_2_spec L0 L1 N _ h) [k0, k1] n [] rfl hnd hlt (show 2 ≤ 2 from by decide) (show ∀ j ∈ ([] : List Nat), j < 2 from by decide) (by rfl) ⟨(under_row _ _ _), ⟨(under_row _ _ _), trivial⟩⟩ (by rfl) ⟨(under_row _ _ _), ⟨(under_row _ _ _), trivial⟩⟩ ⟨.inr rfl, ⟨.inr rfl, trivial⟩⟩ rfl rfl rfl (cons_eq (pair_eq rfl (renO_row _ _ _)) (cons_eq (pair_eq rfl (renO_row _ _ _)) rfl)) rfl)

noncomputable def rset_Rset_Fork_2V (a0 : Int) (L1 : List R_ii) : rset_Rset_Fork_2R → Value
 | .r0 => vp 2 0
noncomputable def rset_Rset_Fork_2Po (a0 : Int) (L1 : List R_ii) : rset_Rset_Fork_2R → List (Option AObj)
 | .r0 => [some (.cells [vi a0, vn, Value.int .u32 (1 : Int), Value.int .i32 (0 : Int), Value.int .u32 (0 : Int), Value.map (some 1)] 64), some (.ro (mapV L1) true), some (.cells [vi a0, vn, Value.int .u32 (0 : Int), Value.int .i32 (0 : Int), Value.int .u32 (0 : Int), Value.map none] 64)]

theorem rset_Rset_Fork_2_fx (a0 : Int) (L1 : List R_ii) (N : Nat) : Fx Try.prog ext_Sr Try.f10 [.cells [vi a0, vn, Value.int .u32 (1 : Int), Value.int .i32 (0 : Int), Value.int .u32 (0 : Int), Value.map (some 1)] 64, .ro (mapV L1) true] #[vp 0 0] (rset_Rset_Fork_2V a0 L1) (rset_Rset_Fork_2Po a0 L1) (rset_Rset_Fork_2 a0 L1 N) := by
 unfold rset_Rset_Fork_2
 refine fx_ite (fun g0 => ?_) (fun g0 => ?_)
 ·
  exact fx_fin (r := (.r0 : rset_Rset_Fork_2R)) (fu := 4000) (orc := (orcw [(1, true), (4, true)] [] [] [] [])) (live := [0, 1, 2]) (u := vp 2 0) (bl := [some (.cells [vi a0, vn, Value.int .u32 (1 : Int), Value.int .i32 (0 : Int), Value.int .u32 (0 : Int), Value.map (some 1)] 64), some (.ro (mapV L1) true), some (.cells [vi a0, vn, Value.int .u32 (0 : Int), Value.int .i32 (0 : Int), Value.int .u32 (0 : Int), Value.map none] 64)]) (ob := [((decide (a0 > (0 : Int))), true), ((decide (a0 > (0 : Int))), true)]) (by kernel_rfl) (oY <| oY obs_nil) rfl (by decide) (by rfl) rr ⟨⟨rfl, ⟨[], by rfl⟩, by rfl⟩, ⟨(show mapV L1 = mapV L1 from rfl), ⟨⟨rfl, ⟨[], by rfl⟩, by rfl⟩, trivial⟩⟩⟩
 ·
  exact fx_none

theorem rset_Rset_Fork_2_spec (a0 : Int) (L1 : List R_ii) (N : Nat) (r : rset_Rset_Fork_2R) (h : rset_Rset_Fork_2 a0 L1 N = some r) : LSpec Try.prog 10 #[vp 0 0] [.cells [vi a0, vn, Value.int .u32 (1 : Int), Value.int .i32 (0 : Int), Value.int .u32 (0 : Int), Value.map (some 1)] 64, .ro (mapV L1) true] (rset_Rset_Fork_2V a0 L1 r) (rset_Rset_Fork_2Po a0 L1 r) :=
 fx_spec fit_Sr Try.func10 (by kernel_rfl) (by kernel_rfl) (fun r => by cases r <;> exact le_far _ rfl) (rset_Rset_Fork_2_fx a0 L1 N) h

noncomputable def rset_Rset_Fork_2T0 (a0 : Int) (L1 : List R_ii) (k0 k1 n : Nat) : Told := .call [(k0, .cells [vi a0, vn, Value.int .u32 (1 : Int), Value.int .i32 (0 : Int), Value.int .u32 (0 : Int), Value.map (some k1)] 64), (k1, .ro (mapV L1) true)] (vp n 0) [(n, some (.cells [vi a0, vn, Value.int .u32 (0 : Int), Value.int .i32 (0 : Int), Value.int .u32 (0 : Int), Value.map none] 64))] 1
def rset_Rset_Fork_2P0 (A : Array Value) (a0 : Int) (L1 : List R_ii) (k0 k1 n : Nat) : Prop := CallSpec Try.prog 10 A [(k0, .cells [vi a0, vn, Value.int .u32 (1 : Int), Value.int .i32 (0 : Int), Value.int .u32 (0 : Int), Value.map (some k1)] 64), (k1, .ro (mapV L1) true)] (vp n 0) [(n, some (.cells [vi a0, vn, Value.int .u32 (0 : Int), Value.int .i32 (0 : Int), Value.int .u32 (0 : Int), Value.map none] 64))] n 1

theorem rset_Rset_Fork_2C0 (A : Array Value) (a0 : Int) (L1 : List R_ii) (N : Nat) (h : rset_Rset_Fork_2 a0 L1 N = some (.r0)) (k0 k1 n : Nat) (hA : A = #[vp k0 0]) (hnd : ([k0, k1] : List Nat).Nodup) (hlt : ∀ k ∈ ([k0, k1] : List Nat), k < n) : rset_Rset_Fork_2P0 A a0 L1 k0 k1 n :=
 cs_args hA (LSpec.callL (show LSpec Try.prog 10 #[vp 0 0] [.cells [vi a0, vn, Value.int .u32 (1 : Int), Value.int .i32 (0 : Int), Value.int .u32 (0 : Int), Value.map (some 1)] 64, .ro (mapV L1) true] (vp 2 0) [some (.cells [vi a0, vn, Value.int .u32 (1 : Int), Value.int .i32 (0 : Int), Value.int .u32 (0 : Int), Value.map (some 1)] 64), some (.ro (mapV L1) true), some (.cells [vi a0, vn, Value.int .u32 (0 : Int), Value.int .i32 (0 : Int), Value.int .u32 (0 : Int), Value.map none] 64)] from rset_Rset_Fork_2_spec a0 L1 N _ h) [k0, k1] n [2] rfl hnd hlt (show 2 ≤ 3 from by decide) (show ∀ j ∈ ([2] : List Nat), j < 3 from by decide) (by rfl) ⟨rfl, ⟨rfl, trivial⟩⟩ (by rfl) ⟨rfl, ⟨rfl, ⟨rfl, trivial⟩⟩⟩ ⟨.inr rfl, ⟨.inr rfl, ⟨(by decide), trivial⟩⟩⟩ rfl rfl rfl (cons_eq (pair_eq rfl rfl) (cons_eq (pair_eq rfl rfl) rfl)) (cons_eq (pair_eq rfl (some_eq rfl)) rfl))

noncomputable def rset_Rset_Add_2V (a0 a1 a2 : Int) (L3 : List R_ii) : rset_Rset_Add_2R → Value
 | .r0 w1 => vi w1
 | .r1 => vq
noncomputable def rset_Rset_Add_2Po (a0 a1 a2 : Int) (L3 : List R_ii) : rset_Rset_Add_2R → List (Option AObj)
 | .r0 w1 => [some (.cells [vi a2, vn, Value.int .u32 (1 : Int), Value.int .i32 (0 : Int), Value.int .u32 (0 : Int), Value.map (some 1)] 64), some (.ro (mapV L3) true)]
 | .r1 => [some (.cells [vi a2, vs 2 0 1 1, Value.int .u32 (1 : Int), Value.int .i32 (0 : Int), Value.int .u32 (0 : Int), Value.map (some 1)] 64), some (.ro (mapV (mPut L3 a0 (0 : Int))) true), some (.cells (rowV E_ii ([(⟨a0, a1⟩ : R_ii)] : List R_ii)) 42)]

theorem rset_Rset_Add_2_fx (a0 a1 a2 : Int) (L3 : List R_ii) (N : Nat) : Fx Try.prog ext_Sr Try.f11 [.cells [vi a2, vn, Value.int .u32 (1 : Int), Value.int .i32 (0 : Int), Value.int .u32 (0 : Int), Value.map (some 1)] 64, .ro (mapV L3) true] #[vp 0 0, vi a0, vi a1] (rset_Rset_Add_2V a0 a1 a2 L3) (rset_Rset_Add_2Po a0 a1 a2 L3) (rset_Rset_Add_2 a0 a1 a2 L3 N) := by
 unfold rset_Rset_Add_2
 refine fx_ite (fun g0 => ?_) (fun g0 => ?_)
 ·
  refine fx_ite (fun g1 => ?_) (fun g1 => ?_)
  ·
   exact fx_fin (r := (.r0 ((1 : Int)) : rset_Rset_Add_2R)) (fu := 4000) (orc := (orcw [(1, true), (3, true)] [] [] [] [])) (live := [0, 1]) (u := vi (1 : Int)) (bl := [some (.cells [vi a2, vn, Value.int .u32 (1 : Int), Value.int .i32 (0 : Int), Value.int .u32 (0 : Int), Value.map (some 1)] 64), some (.ro (mapV L3) true)]) (ob := [((decide (a0 < (0 : Int))), true), ((decide (a2 > (0 : Int))), true)]) (by kernel_rfl) (oY <| oY obs_nil) rfl (by decide) (by rfl) rr ⟨⟨rfl, ⟨[], by rfl⟩, by rfl⟩, ⟨(show mapV L3 = mapV L3 from rfl), trivial⟩⟩
  ·
   refine fx_ite (fun g2 => ?_) (fun g2 => ?_)
   ·
    exact fx_fin (r := (.r0 ((1 : Int)) : rset_Rset_Add_2R)) (fu := 4000) (orc := (orcw [(1, true), (3, false), (4, true)] [] [] [] [])) (live := [0, 1]) (u := vi (1 : Int)) (bl := [some (.cells [vi a2, vn, Value.int .u32 (1 : Int), Value.int .i32 (0 : Int), Value.int .u32 (0 : Int), Value.map (some 1)] 64), some (.ro (mapV L3) true)]) (ob := [((decide (a0 ≥ (1024 : Int))), true), ((decide (a0 < (0 : Int))), false), ((decide (a2 > (0 : Int))), true)]) (by kernel_rfl) (oY <| oN <| oY obs_nil) rfl (by decide) (by rfl) rr ⟨⟨rfl, ⟨[], by rfl⟩, by rfl⟩, ⟨(show mapV L3 = mapV L3 from rfl), trivial⟩⟩
   ·
    refine fx_ite (fun g3 => ?_) (fun g3 => ?_)
    ·
     exact fx_fin (r := (.r0 ((1 : Int)) : rset_Rset_Add_2R)) (fu := 4000) (orc := (orcw [(1, true), (3, false), (4, false), (5, true)] [] [] [] [])) (live := [0, 1]) (u := vi (1 : Int)) (bl := [some (.cells [vi a2, vn, Value.int .u32 (1 : Int), Value.int .i32 (0 : Int), Value.int .u32 (0 : Int), Value.map (some 1)] 64), some (.ro (mapV L3) true)]) (ob := [((decide (a1 < (0 : Int))), true), ((decide (a0 ≥ (1024 : Int))), false), ((decide (a0 < (0 : Int))), false), ((decide (a2 > (0 : Int))), true)]) (by kernel_rfl) (oY <| oN <| oN <| oY obs_nil) rfl (by decide) (by rfl) rr ⟨⟨rfl, ⟨[], by rfl⟩, by rfl⟩, ⟨(show mapV L3 = mapV L3 from rfl), trivial⟩⟩
    ·
     refine fx_ite (fun g4 => ?_) (fun g4 => ?_)
     ·
      exact fx_fin (r := (.r0 ((1 : Int)) : rset_Rset_Add_2R)) (fu := 4000) (orc := (orcw [(1, true), (3, false), (4, false), (5, false), (6, true)] [] [] [] [])) (live := [0, 1]) (u := vi (1 : Int)) (bl := [some (.cells [vi a2, vn, Value.int .u32 (1 : Int), Value.int .i32 (0 : Int), Value.int .u32 (0 : Int), Value.map (some 1)] 64), some (.ro (mapV L3) true)]) (ob := [((decide (a1 > (2199023255552 : Int))), true), ((decide (a1 < (0 : Int))), false), ((decide (a0 ≥ (1024 : Int))), false), ((decide (a0 < (0 : Int))), false), ((decide (a2 > (0 : Int))), true)]) (by kernel_rfl) (oY <| oN <| oN <| oN <| oY obs_nil) rfl (by decide) (by rfl) rr ⟨⟨rfl, ⟨[], by rfl⟩, by rfl⟩, ⟨(show mapV L3 = mapV L3 from rfl), trivial⟩⟩
     ·
      refine fx_ite (fun g5 => ?_) (fun g5 => ?_)
      ·
       exact fx_fin (r := (.r0 ((0 : Int)) : rset_Rset_Add_2R)) (fu := 4000) (orc := (orcw [(1, true), (3, false), (4, false), (5, false), (6, false)] [] [] [] [(1, .lk (some (vi (mGet L3 a0))))])) (live := [0, 1]) (u := vq) (bl := [some (.cells [vi a2, vn, Value.int .u32 (1 : Int), Value.int .i32 (0 : Int), Value.int .u32 (0 : Int), Value.map (some 1)] 64), some (.ro (mapV L3) true)]) (ob := [(dP (lookE .i64 (vi a0) (mapE L3) = some (some (vi (mGet L3 a0)))), true), ((decide (a1 > (2199023255552 : Int))), false), ((decide (a1 < (0 : Int))), false), ((decide (a0 ≥ (1024 : Int))), false), ((decide (a0 < (0 : Int))), false), ((decide (a2 > (0 : Int))), true)]) (by kernel_rfl) (obs_cons (dP_of (mp_some (by assumption))) <| oN <| oN <| oN <| oN <| oY obs_nil) rfl (by decide) (by rfl) rr ⟨⟨rfl, ⟨[], by rfl⟩, by rfl⟩, ⟨(show mapV L3 = mapV L3 from rfl), trivial⟩⟩
      ·
       exact fx_fin (r := (.r1 : rset_Rset_Add_2R)) (fu := 4000) (orc := (orcw [(1, true), (3, false), (4, false), (5, false), (6, false), (9, false)] [] [] [] [(1, .lk (none)), (2, .mp (mapE (mPut L3 a0 (0 : Int))))])) (live := [0, 1, 3]) (u := vq) (bl := [some (.cells [vi a2, vs 3 0 1 1, Value.int .u32 (1 : Int), Value.int .i32 (0 : Int), Value.int .u32 (0 : Int), Value.map (some 1)] 64), some (.ro (mapV (mPut L3 a0 (0 : Int))) true), some (.cells [vi a0, vi a1] 42)]) (ob := [(dP (putE .i64 (vi a0) (vq) (mapE L3) = some (mapE (mPut L3 a0 (0 : Int)))), true), ((decide ((0 : Int) ≥ a2)), false), (dP (lookE .i64 (vi a0) (mapE L3) = some (none)), true), ((decide (a1 > (2199023255552 : Int))), false), ((decide (a1 < (0 : Int))), false), ((decide (a0 ≥ (1024 : Int))), false), ((decide (a0 < (0 : Int))), false), ((decide (a2 > (0 : Int))), true)]) (by kernel_rfl) (obs_cons (dP_of (mp_put _ _ _)) <| oN <| obs_cons (dP_of (mp_none (by assumption))) <| oN <| oN <| oN <| oN <| oY obs_nil) rfl (by decide) (by rfl) rr ⟨⟨rfl, ⟨[], by rfl⟩, by rfl⟩, ⟨(show mapV (mPut L3 a0 (0 : Int)) = mapV (mPut L3 a0 (0 : Int)) from rfl), ⟨(same_cells (E := E_ii) _ (L := ([(⟨a0, a1⟩ : R_ii)] : List R_ii)) _ (show ([vi a0, vi a1] : List Value) = rowV E_ii ([(⟨a0, a1⟩ : R_ii)] : List R_ii) from rfl)), trivial⟩⟩⟩
 ·
  exact fx_none

theorem rset_Rset_Add_2_spec (a0 a1 a2 : Int) (L3 : List R_ii) (N : Nat) (r : rset_Rset_Add_2R) (h : rset_Rset_Add_2 a0 a1 a2 L3 N = some r) : LSpec Try.prog 11 #[vp 0 0, vi a0, vi a1] [.cells [vi a2, vn, Value.int .u32 (1 : Int), Value.int .i32 (0 : Int), Value.int .u32 (0 : Int), Value.map (some 1)] 64, .ro (mapV L3) true] (rset_Rset_Add_2V a0 a1 a2 L3 r) (rset_Rset_Add_2Po a0 a1 a2 L3 r) :=
 fx_spec fit_Sr Try.func11 (by kernel_rfl) (by kernel_rfl) (fun r => by cases r <;> exact le_far _ rfl) (rset_Rset_Add_2_fx a0 a1 a2 L3 N) h

noncomputable def rset_Rset_Add_2T0 (a0 a1 a2 : Int) (L3 : List R_ii) (w1 : Int) (k0 k1 n : Nat) : Told := .call [(k0, .cells [vi a2, vn, Value.int .u32 (1 : Int), Value.int .i32 (0 : Int), Value.int .u32 (0 : Int), Value.map (some k1)] 64), (k1, .ro (mapV L3) true)] (vi w1) [] 0
def rset_Rset_Add_2P0 (A : Array Value) (a0 a1 a2 : Int) (L3 : List R_ii) (w1 : Int) (k0 k1 n : Nat) : Prop := CallSpec Try.prog 11 A [(k0, .cells [vi a2, vn, Value.int .u32 (1 : Int), Value.int .i32 (0 : Int), Value.int .u32 (0 : Int), Value.map (some k1)] 64), (k1, .ro (mapV L3) true)] (vi w1) [] n 0

theorem rset_Rset_Add_2C0 (A : Array Value) (a0 a1 a2 : Int) (L3 : List R_ii) (w1 : Int) (N : Nat) (h : rset_Rset_Add_2 a0 a1 a2 L3 N = some (.r0 w1)) (k0 k1 n : Nat) (hA : A = #[vp k0 0, vi a0, vi a1]) (hnd : ([k0, k1] : List Nat).Nodup) (hlt : ∀ k ∈ ([k0, k1] : List Nat), k < n) : rset_Rset_Add_2P0 A a0 a1 a2 L3 w1 k0 k1 n :=
 cs_args hA (LSpec.callL (show LSpec Try.prog 11 #[vp 0 0, vi a0, vi a1] [.cells [vi a2, vn, Value.int .u32 (1 : Int), Value.int .i32 (0 : Int), Value.int .u32 (0 : Int), Value.map (some 1)] 64, .ro (mapV L3) true] (vi w1) [some (.cells [vi a2, vn, Value.int .u32 (1 : Int), Value.int .i32 (0 : Int), Value.int .u32 (0 : Int), Value.map (some 1)] 64), some (.ro (mapV L3) true)] from rset_Rset_Add_2_spec a0 a1 a2 L3 N _ h) [k0, k1] n [] rfl hnd hlt (show 2 ≤ 2 from by decide) (show ∀ j ∈ ([] : List Nat), j < 2 from by decide) (by rfl) ⟨rfl, ⟨rfl, trivial⟩⟩ (by rfl) ⟨rfl, ⟨rfl, trivial⟩⟩ ⟨.inr rfl, ⟨.inr rfl, trivial⟩⟩ rfl rfl rfl (cons_eq (pair_eq rfl rfl) (cons_eq (pair_eq rfl rfl) rfl)) rfl)

noncomputable def rset_Rset_Add_2T1 (a0 a1 a2 : Int) (L3 : List R_ii) (k0 k1 n : Nat) : Told := .call [(k0, .cells [vi a2, vn, Value.int .u32 (1 : Int), Value.int .i32 (0 : Int), Value.int .u32 (0 : Int), Value.map (some k1)] 64), (k1, .ro (mapV L3) true)] (vq) [(k0, some (.cells [vi a2, vs n 0 1 1, Value.int .u32 (1 : Int), Value.int .i32 (0 : Int), Value.int .u32 (0 : Int), Value.map (some k1)] 64)), (k1, some (.ro (mapV (mPut L3 a0 (0 : Int))) true)), (n, some (.cells (rowV E_ii ([(⟨a0, a1⟩ : R_ii)] : List R_ii)) 42))] 1
def rset_Rset_Add_2P1 (A : Array Value) (a0 a1 a2 : Int) (L3 : List R_ii) (k0 k1 n : Nat) : Prop := CallSpec Try.prog 11 A [(k0, .cells [vi a2, vn, Value.int .u32 (1 : Int), Value.int .i32 (0 : Int), Value.int .u32 (0 : Int), Value.map (some k1)] 64), (k1, .ro (mapV L3) true)] (vq) [(k0, some (.cells [vi a2, vs n 0 1 1, Value.int .u32 (1 : Int), Value.int .i32 (0 : Int), Value.int .u32 (0 : Int), Value.map (some k1)] 64)), (k1, some (.ro (mapV (mPut L3 a0 (0 : Int))) true)), (n, some (.cells (rowV E_ii ([(⟨a0, a1⟩ : R_ii)] : List R_ii)) 42))] n 1

theorem rset_Rset_Add_2C1 (A : Array Value) (a0 a1 a2 : Int) (L3 : List R_ii) (N : Nat) (h : rset_Rset_Add_2 a0 a1 a2 L3 N = some (.r1)) (k0 k1 n : Nat) (hA : A = #[vp k0 0, vi a0, vi a1]) (hnd : ([k0, k1] : List Nat).Nodup) (hlt : ∀ k ∈ ([k0, k1] : List Nat), k < n) : rset_Rset_Add_2P1 A a0 a1 a2 L3 k0 k1 n :=
 cs_args hA (LSpec.callL (show LSpec Try.prog 11 #[vp 0 0, vi a0, vi a1] [.cells [vi a2, vn, Value.int .u32 (1 : Int), Value.int .i32 (0 : Int), Value.int .u32 (0 : Int), Value.map (some 1)] 64, .ro (mapV L3) true] (vq) [some (.cells [vi a2, vs 2 0 1 1, Value.int .u32 (1 : Int), Value.int .i32 (0 : Int), Value.int .u32 (0 : Int), Value.map (some 1)] 64), some (.ro (mapV (mPut L3 a0 (0 : Int))) true), some (.cells (rowV E_ii ([(⟨a0, a1⟩ : R_ii)] : List R_ii)) 42)] from rset_Rset_Add_2_spec a0 a1 a2 L3 N _ h) [k0, k1] n [0, 1, 2] rfl hnd hlt (show 2 ≤ 3 from by decide) (show ∀ j ∈ ([0, 1, 2] : List Nat), j < 3 from by decide) (by rfl) ⟨rfl, ⟨rfl, trivial⟩⟩ (by rfl) ⟨rfl, ⟨rfl, ⟨(under_row _ _ _), trivial⟩⟩⟩ ⟨.inl (by decide), ⟨.inl (by decide), ⟨(by decide), trivial⟩⟩⟩ rfl rfl rfl (cons_eq (pair_eq rfl rfl) (cons_eq (pair_eq rfl rfl) rfl)) (cons_eq (pair_eq rfl (some_eq rfl)) (cons_eq (pair_eq rfl (some_eq rfl)) (cons_eq (pair_eq rfl (some_eq (renO_row _ _ _))) rfl))))

noncomputable def rset_Rset_Fork_3V (a0 : Int) (L1 L2 : List R_ii) : rset_Rset_Fork_3R → Value
 | .r0 w4 => vp 3 0
noncomputable def rset_Rset_Fork_3Po (a0 : Int) (L1 L2 : List R_ii) : rset_Rset_Fork_3R → List (Option AObj)
 | .r0 w4 => [some (.cells [vi a0, vs 1 0 L1.length L1.length, Value.int .u32 (1 : Int), Value.int .i32 (0 : Int), Value.int .u32 (0 : Int), Value.map (some 2)] 64), some (.cells (rowV E_ii L1) 42), some (.ro (mapV L2) true), some (.cells [vi a0, vs 4 0 w4.length w4.length, Value.int .u32 (0 : Int), Value.int .i32 (0 : Int), Value.int .u32 (0 : Int), Value.map none] 64), some (.cells (rowV E_ii w4) 42)]

theorem rset_Rset_Fork_3_fx (a0 : Int) (L1 L2 : List R_ii) (N : Nat) : Fx Try.prog ext_Sr Try.f10 [.cells [vi a0, vs 1 0 L1.length L1.length, Value.int .u32 (1 : Int), Value.int .i32 (0 : Int), Value.int .u32 (0 : Int), Value.map (some 2)] 64, .cells (rowV E_ii L1) 42, .ro (mapV L2) true] #[vp 0 0] (rset_Rset_Fork_3V a0 L1 L2) (rset_Rset_Fork_3Po a0 L1 L2) (rset_Rset_Fork_3 a0 L1 L2 N) := by
 unfold rset_Rset_Fork_3
 refine fx_ite (fun g0 => ?_) (fun g0 => ?_)
 ·
  refine fx_ite (fun g1 => ?_) (fun g1 => ?_)
  ·
   exact fx_fin (r := (.r0 (([] : List R_ii)) : rset_Rset_Fork_3R)) (fu := 4000) (orc := (orcw [(1, true), (4, true)] [] [] [] [(0, .ap0)])) (live := [0, 1, 2, 4, 3]) (u := vp 4 0) (bl := [some (.cells [vi a0, vs 1 0 L1.length L1.length, Value.int .u32 (1 : Int), Value.int .i32 (0 : Int), Value.int .u32 (0 : Int), Value.map (some 2)] 64), some (.cells (rowV E_ii L1) 42), some (.ro (mapV L2) true), some (.cells [vi a0, vs 3 0 0 0, Value.int .u32 (0 : Int), Value.int .i32 (0 : Int), Value.int .u32 (0 : Int), Value.map none] 64), some (.cells [] 42)]) (ob := [(dP (0 = L1.length ∧ takeN (L1.length * 2) (List.drop 0 (rowV E_ii L1)) = some [] ∧ allB cell1 [] = true), true), ((decide (a0 > (0 : Int))), true), ((decide (a0 > (0 : Int))), true)]) (by kernel_rfl) (obs_cons (dP_of ⟨by omega, by rw [show L1.length = 0 by omega]; rfl, rfl⟩) <| oY <| oY obs_nil) rfl (by decide) (by rfl) rr ⟨⟨rfl, ⟨[], by rfl⟩, by rfl⟩, ⟨(same_row (E := E_ii) (α := R_ii) _ L1 _), ⟨(show mapV L2 = mapV L2 from rfl), ⟨⟨rfl, ⟨[], (show ([vi a0, vs 4 0 0 0, Value.int .u32 (0 : Int), Value.int .i32 (0 : Int), Value.int .u32 (0 : Int), Value.map none] : List Value) = _ from (cons_eq rfl (cons_eq (slice_eq rfl eqA eqA) (cons_eq rfl (cons_eq rfl (cons_eq rfl (cons_eq rfl rfl)))))).symm)⟩, by rfl⟩, ⟨(same_cells (E := E_ii) _ (L := ([] : List R_ii)) _ (show ([] : List Value) = rowV E_ii ([] : List R_ii) from rfl)), trivial⟩⟩⟩⟩⟩
  ·
   refine fx_ite (fun g2 => ?_) (fun g2 => ?_)
   ·
    exact fx_fin (r := (.r0 (L1) : rset_Rset_Fork_3R)) (fu := 4000) (orc := (orcw [(1, true), (4, true)] [] [] [] [(0, .ap L1.length (rowV E_ii L1) (rowV E_ii L1))])) (live := [0, 1, 2, 5, 4]) (u := vp 5 0) (bl := [some (.cells [vi a0, vs 1 0 L1.length L1.length, Value.int .u32 (1 : Int), Value.int .i32 (0 : Int), Value.int .u32 (0 : Int), Value.map (some 2)] 64), some (.cells (rowV E_ii L1) 42), some (.ro (mapV L2) true), some (.cells [vi a0, vs 4 0 (0 + L1.length) (0 + L1.length), Value.int .u32 (0 : Int), Value.int .i32 (0 : Int), Value.int .u32 (0 : Int), Value.map none] 64), some (.cells (rowV E_ii L1) 42)]) (ob := [(dP ((L1.length = L1.length ∧ takeN (L1.length * 2) (List.drop 0 (rowV E_ii L1)) = some (rowV E_ii L1) ∧ allB cell1 (rowV E_ii L1) = true) ∧ 0 < L1.length ∧ L1.length ≤ 100000 ∧ 0 < 0 + L1.length ∧ 0 ≤ 100000 ∧ 0 * 2 ≤ (List.length []) ∧ List.take (0 * 2) [] ++ (rowV E_ii L1) = (rowV E_ii L1)), true), ((decide (a0 > (0 : Int))), true), ((decide (a0 > (0 : Int))), true)]) (by kernel_rfl) (obs_cons (dP_of ⟨⟨rfl, (src_row (E := E_ii) (L := L1) (a := 0) (n := L1.length) (by omega) (by show _ = _ * 2; omega) (show _ = _ * 2 from rfl) (by rw [List.drop_zero, List.take_of_length_le (by omega)]))⟩, by omega, by omega, ltA, by omega, (rowV_dst (E := E_ii) (L := ([] : List R_ii)) (M := L1) (n := 0) (show _ = _ * 2 from rfl) ltA (R := L1) (by rw [List.take_of_length_le ltA]; rfl))⟩) <| oY <| oY obs_nil) rfl (by decide) (by rfl) rr ⟨⟨rfl, ⟨[], by rfl⟩, by rfl⟩, ⟨(same_row (E := E_ii) (α := R_ii) _ L1 _), ⟨(show mapV L2 = mapV L2 from rfl), ⟨⟨rfl, ⟨[], (show ([vi a0, vs 4 0 (0 + L1.length) (0 + L1.length), Value.int .u32 (0 : Int), Value.int .i32 (0 : Int), Value.int .u32 (0 : Int), Value.map none] : List Value) = _ from (cons_eq rfl (cons_eq (slice_eq rfl eqA eqA) (cons_eq rfl (cons_eq rfl (cons_eq rfl (cons_eq rfl rfl)))))).symm)⟩, by rfl⟩, ⟨(same_row (E := E_ii) (α := R_ii) _ L1 _), trivial⟩⟩⟩⟩⟩
   ·
    exact fx_none
 ·
  exact fx_none

theorem rset_Rset_Fork_3_spec (a0 : Int) (L1 L2 : List R_ii) (N : Nat) (r : rset_Rset_Fork_3R) (h : rset_Rset_Fork_3 a0 L1 L2 N = some r) : LSpec Try.prog 10 #[vp 0 0] [.cells [vi a0, vs 1 0 L1.length L1.length, Value.int .u32 (1 : Int), Value.int .i32 (0 : Int), Value.int .u32 (0 : Int), Value.map (some 2)] 64, .cells (rowV E_ii L1) 42, .ro (mapV L2) true] (rset_Rset_Fork_3V a0 L1 L2 r) (rset_Rset_Fork_3Po a0 L1 L2 r) :=
 fx_spec fit_Sr Try.func10 (by kernel_rfl) (by kernel_rfl) (fun r => by cases r <;> exact le_far _ rfl) (rset_Rset_Fork_3_fx a0 L1 L2 N) h

noncomputable def rset_Rset_Fork_3T0 (a0 : Int) (L1 L2 w4 : List R_ii) (k0 k1 k2 n : Nat) : Told := .call [(k0, .cells [vi a0, vs k1 0 L1.length L1.length, Value.int .u32 (1 : Int), Value.int .i32 (0 : Int), Value.int .u32 (0 : Int), Value.map (some k2)] 64), (k1, .cells (rowV E_ii L1) 42), (k2, .ro (mapV L2) true)] (vp n 0) [(n, some (.cells [vi a0, vs (n + 1) 0 w4.length w4.length, Value.int .u32 (0 : Int), Value.int .i32 (0 : Int), Value.int .u32 (0 : Int), Value.map none] 64)), ((n + 1), some (.cells (rowV E_ii w4) 42))] 2
def rset_Rset_Fork_3P0 (A : Array Value) (a0 : Int) (L1 L2 w4 : List R_ii) (k0 k1 k2 n : Nat) : Prop := CallSpec Try.prog 10 A [(k0, .cells [vi a0, vs k1 0 L1.length L1.length, Value.int .u32 (1 : Int), Value.int .i32 (0 : Int), Value.int .u32 (0 : Int), Value.map (some k2)] 64), (k1, .cells (rowV E_ii L1) 42), (k2, .ro (mapV L2) true)] (vp n 0) [(n, some (.cells [vi a0, vs (n + 1) 0 w4.length w4.length, Value.int .u32 (0 : Int), Value.int .i32 (0 : Int), Value.int .u32 (0 : Int), Value.map none] 64)), ((n + 1), some (.cells (rowV E_ii w4) 42))] n 2

theorem rset_Rset_Fork_3C0 (A : Array Value) (a0 : Int) (L1 L2 w4 : List R_ii) (N : Nat) (h : rset_Rset_Fork_3 a0 L1 L2 N = some (.r0 w4)) (k0 k1 k2 n : Nat) (hA : A = #[vp k0 0]) (hnd : ([k0, k1, k2] : List Nat).Nodup) (hlt : ∀ k ∈ ([k0, k1, k2] : List Nat), k < n) : rset_Rset_Fork_3P0 A a0 L1 L2 w4 k0 k1 k2 n :=
 cs_args hA (LSpec.callL (show LSpec Try.prog 10 #[vp 0 0] [.cells [vi a0, vs 1 0 L1.length L1.length, Value.int .u32 (1 : Int), Value.int .i32 (0 : Int), Value.int .u32 (0 : Int), Value.map (some 2)] 64, .cells (rowV E_ii L1) 42, .ro (mapV L2) true] (vp 3 0) [some (.cells [vi a0, vs 1 0 L1.length L1.length, Value.int .u32 (1 : Int), Value.int .i32 (0 : Int), Value.int .u32 (0 : Int), Value.map (some 2)] 64), some (.cells (rowV E_ii L1) 42), some (.ro (mapV L2) true), some (.cells [vi a0, vs 4 0 w4.length w4.length, Value.int .u32 (0 : Int), Value.int .i32 (0 : Int), Value.int .u32 (0 : Int), Value.map none] 64), some (.cells (rowV E_ii w4) 42)] from rset_Rset_Fork_3_spec a0 L1 L2 N _ h) [k0, k1, k2] n [3, 4] rfl hnd hlt (show 3 ≤ 5 from by decide) (show ∀ j ∈ ([3, 4] : List Nat), j < 5 from by decide) (by rfl) ⟨rfl, ⟨(under_row _ _ _), ⟨rfl, trivial⟩⟩⟩ (by rfl) ⟨rfl, ⟨(under_row _ _ _), ⟨rfl, ⟨rfl, ⟨(under_row _ _ _), trivial⟩⟩⟩⟩⟩ ⟨.inr rfl, ⟨.inr rfl, ⟨.inr rfl, ⟨(by decide), ⟨(by decide), trivial⟩⟩⟩⟩⟩ rfl rfl rfl (cons_eq (pair_eq rfl rfl) (cons_eq (pair_eq rfl (renO_row _ _ _)) (cons_eq (pair_eq rfl rfl) rfl))) (cons_eq (pair_eq rfl (some_eq rfl)) (cons_eq (pair_eq rfl (some_eq (renO_row _ _ _))) rfl)))

noncomputable def rset_Rset_Add_3V (a0 a1 a2 : Int) (L3 L4 : List R_ii) : rset_Rset_Add_3R → Value
 | .r0 w2 => vi w2
 | .r1 => vq
noncomputable def rset_Rset_Add_3Po (a0 a1 a2 : Int) (L3 L4 : List R_ii) : rset_Rset_Add_3R → List (Option AObj)
 | .r0 w2 => [some (.cells [vi a2, vs 1 0 L3.length L3.length, Value.int .u32 (1 : Int), Value.int .i32 (0 : Int), Value.int .u32 (0 : Int), Value.map (some 2)] 64), some (.cells (rowV E_ii L3) 42), some (.ro (mapV L4) true)]
 | .r1 => [some (.cells [vi a2, vs 3 0 (L3.length + 1) (L3.length + 1), Value.int .u32 (1 : Int), Value.int .i32 (0 : Int), Value.int .u32 (0 : Int), Value.map (some 2)] 64), none, some (.ro (mapV (mPut L4 a0 ((L3.length : Nat) : Int))) true), some (.cells (rowV E_ii (L3 ++ ([(⟨a0, a1⟩ : R_ii)] : List R_ii))) 42)]

theorem rset_Rset_Add_3_fx (a0 a1 a2 : Int) (L3 L4 : List R_ii) (N : Nat) : Fx Try.prog ext_Sr Try.f11 [.cells [vi a2, vs 1 0 L3.length L3.length, Value.int .u32 (1 : Int), Value.int .i32 (0 : Int), Value.int .u32 (0 : Int), Value.map (some 2)] 64, .cells (rowV E_ii L3) 42, .ro (mapV L4) true] #[vp 0 0, vi a0, vi a1] (rset_Rset_Add_3V a0 a1 a2 L3 L4) (rset_Rset_Add_3Po a0 a1 a2 L3 L4) (rset_Rset_Add_3 a0 a1 a2 L3 L4 N) := by
 unfold rset_Rset_Add_3
 refine fx_ite (fun g0 => ?_) (fun g0 => ?_)
 ·
  refine fx_ite (fun g1 => ?_) (fun g1 => ?_)
  ·
   exact fx_fin (r := (.r0 ((1 : Int)) : rset_Rset_Add_3R)) (fu := 4000) (orc := (orcw [(1, true), (3, true)] [] [] [] [])) (live := [0, 1, 2]) (u := vi (1 : Int)) (bl := [some (.cells [vi a2, vs 1 0 L3.length L3.length, Value.int .u32 (1 : Int), Value.int .i32 (0 : Int), Value.int .u32 (0 : Int), Value.map (some 2)] 64), some (.cells (rowV E_ii L3) 42), some (.ro (mapV L4) true)]) (ob := [((decide (a0 < (0 : Int))), true), ((decide (a2 > (0 : Int))), true)]) (by kernel_rfl) (oY <| oY obs_nil) rfl (by decide) (by rfl) rr ⟨⟨rfl, ⟨[], by rfl⟩, by rfl⟩, ⟨(same_row (E := E_ii) (α := R_ii) _ L3 _), ⟨(show mapV L4 = mapV L4 from rfl), trivial⟩⟩⟩
  ·
   refine fx_ite (fun g2 => ?_) (fun g2 => ?_)
   ·
    exact fx_fin (r := (.r0 ((1 : Int)) : rset_Rset_Add_3R)) (fu := 4000) (orc := (orcw [(1, true), (3, false), (4, true)] [] [] [] [])) (live := [0, 1, 2]) (u := vi (1 : Int)) (bl := [some (.cells [vi a2, vs 1 0 L3.length L3.length, Value.int .u32 (1 : Int), Value.int .i32 (0 : Int), Value.int .u32 (0 : Int), Value.map (some 2)] 64), some (.cells (rowV E_ii L3) 42), some (.ro (mapV L4) true)]) (ob := [((decide (a0 ≥ (1024 : Int))), true), ((decide (a0 < (0 : Int))), false), ((decide (a2 > (0 : Int))), true)]) (by kernel_rfl) (oY <| oN <| oY obs_nil) rfl (by decide) (by rfl) rr ⟨⟨rfl, ⟨[], by rfl⟩, by rfl⟩, ⟨(same_row (E := E_ii) (α := R_ii) _ L3 _), ⟨(show mapV L4 = mapV L4 from rfl), trivial⟩⟩⟩
   ·
    refine fx_ite (fun g3 => ?_) (fun g3 => ?_)
    ·
     exact fx_fin (r := (.r0 ((1 : Int)) : rset_Rset_Add_3R)) (fu := 4000) (orc := (orcw [(1, true), (3, false), (4, false), (5, true)] [] [] [] [])) (live := [0, 1, 2]) (u := vi (1 : Int)) (bl := [some (.cells [vi a2, vs 1 0 L3.length L3.length, Value.int .u32 (1 : Int), Value.int .i32 (0 : Int), Value.int .u32 (0 : Int), Value.map (some 2)] 64), some (.cells (rowV E_ii L3) 42), some (.ro (mapV L4) true)]) (ob := [((decide (a1 < (0 : Int))), true), ((decide (a0 ≥ (1024 : Int))), false), ((decide (a0 < (0 : Int))), false), ((decide (a2 > (0 : Int))), true)]) (by kernel_rfl) (oY <| oN <| oN <| oY obs_nil) rfl (by decide) (by rfl) rr ⟨⟨rfl, ⟨[], by rfl⟩, by rfl⟩, ⟨(same_row (E := E_ii) (α := R_ii) _ L3 _), ⟨(show mapV L4 = mapV L4 from rfl), trivial⟩⟩⟩
    ·
     refine fx_ite (fun g4 => ?_) (fun g4 => ?_)
     ·
      exact fx_fin (r := (.r0 ((1 : Int)) : rset_Rset_Add_3R)) (fu := 4000) (orc := (orcw [(1, true), (3, false), (4, false), (5, false), (6, true)] [] [] [] [])) (live := [0, 1, 2]) (u := vi (1 : Int)) (bl := [some (.cells [vi a2, vs 1 0 L3.length L3.length, Value.int .u32 (1 : Int), Value.int .i32 (0 : Int), Value.int .u32 (0 : Int), Value.map (some 2)] 64), some (.cells (rowV E_ii L3) 42), some (.ro (mapV L4) true)]) (ob := [((decide (a1 > (2199023255552 : Int))), true), ((decide (a1 < (0 : Int))), false), ((decide (a0 ≥ (1024 : Int))), false), ((decide (a0 < (0 : Int))), false), ((decide (a2 > (0 : Int))), true)]) (by kernel_rfl) (oY <| oN <| oN <| oN <| oY obs_nil) rfl (by decide) (by rfl) rr ⟨⟨rfl, ⟨[], by rfl⟩, by rfl⟩, ⟨(same_row (E := E_ii) (α := R_ii) _ L3 _), ⟨(show mapV L4 = mapV L4 from rfl), trivial⟩⟩⟩
     ·
      refine fx_ite (fun g5 => ?_) (fun g5 => ?_)
      ·
       exact fx_fin (r := (.r0 ((0 : Int)) : rset_Rset_Add_3R)) (fu := 4000) (orc := (orcw [(1, true), (3, false), (4, false), (5, false), (6, false)] [] [] [] [(1, .lk (some (vi (mGet L4 a0))))])) (live := [0, 1, 2]) (u := vq) (bl := [some (.cells [vi a2, vs 1 0 L3.length L3.length, Value.int .u32 (1 : Int), Value.int .i32 (0 : Int), Value.int .u32 (0 : Int), Value.map (some 2)] 64), some (.cells (rowV E_ii L3) 42), some (.ro (mapV L4) true)]) (ob := [(dP (lookE .i64 (vi a0) (mapE L4) = some (some (vi (mGet L4 a0)))), true), ((decide (a1 > (2199023255552 : Int))), false), ((decide (a1 < (0 : Int))), false), ((decide (a0 ≥ (1024 : Int))), false), ((decide (a0 < (0 : Int))), false), ((decide (a2 > (0 : Int))), true)]) (by kernel_rfl) (obs_cons (dP_of (mp_some (by assumption))) <| oN <| oN <| oN <| oN <| oY obs_nil) rfl (by decide) (by rfl) rr ⟨⟨rfl, ⟨[], by rfl⟩, by rfl⟩, ⟨(same_row (E := E_ii) (α := R_ii) _ L3 _), ⟨(show mapV L4 = mapV L4 from rfl), trivial⟩⟩⟩
      ·
       refine fx_ite (fun g6 => ?_) (fun g6 => ?_)
       ·
        exact fx_fin (r := (.r0 ((60 : Int)) : rset_Rset_Add_3R)) (fu := 4000) (orc := (orcw [(1, true), (3, false), (4, false), (5, false), (6, false), (9, true)] [] [] [] [(1, .lk (none))])) (live := [0, 1, 2]) (u := vi (60 : Int)) (bl := [some (.cells [vi a2, vs 1 0 L3.length L3.length, Value.int .u32 (1 : Int), Value.int .i32 (0 : Int), Value.int .u32 (0 : Int), Value.map (some 2)] 64), some (.cells (rowV E_ii L3) 42), some (.ro (mapV L4) true)]) (ob := [((decide (((L3.length : Nat) : Int) ≥ a2)), true), (dP (lookE .i64 (vi a0) (mapE L4) = some (none)), true), ((decide (a1 > (2199023255552 : Int))), false), ((decide (a1 < (0 : Int))), false), ((decide (a0 ≥ (1024 : Int))), false), ((decide (a0 < (0 : Int))), false), ((decide (a2 > (0 : Int))), true)]) (by kernel_rfl) (oY <| obs_cons (dP_of (mp_none (by assumption))) <| oN <| oN <| oN <| oN <| oY obs_nil) rfl (by decide) (by rfl) rr ⟨⟨rfl, ⟨[], by rfl⟩, by rfl⟩, ⟨(same_row (E := E_ii) (α := R_ii) _ L3 _), ⟨(show mapV L4 = mapV L4 from rfl), trivial⟩⟩⟩
       ·
        refine fx_ite (fun g7 => ?_) (fun g7 => ?_)
        ·
         exact fx_fin (r := (.r1 : rset_Rset_Add_3R)) (fu := 4000) (orc := (orcw [(1, true), (3, false), (4, false), (5, false), (6, false), (9, false)] [] [] [] [(1, .lk (none)), (2, .mp (mapE (mPut L4 a0 ((L3.length : Nat) : Int)))), (3, .ap 1 [vi a0, vi a1] (rowV E_ii (L3 ++ ([(⟨a0, a1⟩ : R_ii)] : List R_ii))))])) (live := [0, 1, 2, 4]) (u := vq) (bl := [some (.cells [vi a2, vs 4 0 (L3.length + 1) (L3.length + 1), Value.int .u32 (1 : Int), Value.int .i32 (0 : Int), Value.int .u32 (0 : Int), Value.map (some 2)] 64), none, some (.ro (mapV (mPut L4 a0 ((L3.length : Nat) : Int))) true), some (.cells (rowV E_ii (L3 ++ ([(⟨a0, a1⟩ : R_ii)] : List R_ii))) 42)]) (ob := [(dP ((1 = 1 ∧ takeN (1 * 2) (List.drop 0 [vi a0, vi a1]) = some [vi a0, vi a1] ∧ allB cell1 [vi a0, vi a1] = true) ∧ 0 < 1 ∧ 1 ≤ 100000 ∧ L3.length < L3.length + 1 ∧ L3.length ≤ 100000 ∧ L3.length * 2 ≤ (List.length (rowV E_ii L3)) ∧ List.take (L3.length * 2) (rowV E_ii L3) ++ [vi a0, vi a1] = (rowV E_ii (L3 ++ ([(⟨a0, a1⟩ : R_ii)] : List R_ii)))), true), (dP (putE .i64 (vi a0) (vi ((L3.length : Nat) : Int)) (mapE L4) = some (mapE (mPut L4 a0 ((L3.length : Nat) : Int)))), true), ((decide (((L3.length : Nat) : Int) ≥ a2)), false), (dP (lookE .i64 (vi a0) (mapE L4) = some (none)), true), ((decide (a1 > (2199023255552 : Int))), false), ((decide (a1 < (0 : Int))), false), ((decide (a0 ≥ (1024 : Int))), false), ((decide (a0 < (0 : Int))), false), ((decide (a2 > (0 : Int))), true)]) (by kernel_rfl) (obs_cons (dP_of ⟨⟨rfl, ⟨rfl, rfl⟩⟩, by omega, by omega, ltA, by omega, (rowV_dst (E := E_ii) (L := L3) (M := ([(⟨a0, a1⟩ : R_ii)] : List R_ii)) (n := L3.length) (show _ = _ * 2 from rfl) (by omega) (R := (L3 ++ ([(⟨a0, a1⟩ : R_ii)] : List R_ii))) (by rw [List.take_of_length_le (by omega)]))⟩) <| obs_cons (dP_of (mp_put _ _ _)) <| oN <| obs_cons (dP_of (mp_none (by assumption))) <| oN <| oN <| oN <| oN <| oY obs_nil) rfl (by decide) (by rfl) rr ⟨⟨rfl, ⟨[], by rfl⟩, by rfl⟩, ⟨(show mapV (mPut L4 a0 ((L3.length : Nat) : Int)) = mapV (mPut L4 a0 ((L3.length : Nat) : Int)) from rfl), ⟨(same_row (E := E_ii) (α := R_ii) _ (L3 ++ ([(⟨a0, a1⟩ : R_ii)] : List R_ii)) _), trivial⟩⟩⟩
        ·
         exact fx_none
 ·
  exact fx_none

theorem rset_Rset_Add_3_spec (a0 a1 a2 : Int) (L3 L4 : List R_ii) (N : Nat) (r : rset_Rset_Add_3R) (h : rset_Rset_Add_3 a0 a1 a2 L3 L4 N = some r) : LSpec Try.prog 11 #[vp 0 0, vi a0, vi a1] [.cells [vi a2, vs 1 0 L3.length L3.length, Value.int .u32 (1 : Int), Value.int .i32 (0 : Int), Value.int .u32 (0 : Int), Value.map (some 2)] 64, .cells (rowV E_ii L3) 42, .ro (mapV L4) true] (rset_Rset_Add_3V a0 a1 a2 L3 L4 r) (rset_Rset_Add_3Po a0 a1 a2 L3 L4 r) :=
 fx_spec fit_Sr Try.func11 (by kernel_rfl) (by kernel_rfl) (fun r => by cases r <;> exact le_far _ rfl) (rset_Rset_Add_3_fx a0 a1 a2 L3 L4 N) h

noncomputable def rset_Rset_Add_3T0 (a0 a1 a2 : Int) (L3 L4 : List R_ii) (w2 : Int) (k0 k1 k2 n : Nat) : Told := .call [(k0, .cells [vi a2, vs k1 0 L3.length L3.length, Value.int .u32 (1 : Int), Value.int .i32 (0 : Int), Value.int .u32 (0 : Int), Value.map (some k2)] 64), (k1, .cells (rowV E_ii L3) 42), (k2, .ro (mapV L4) true)] (vi w2) [] 0
def rset_Rset_Add_3P0 (A : Array Value) (a0 a1 a2 : Int) (L3 L4 : List R_ii) (w2 : Int) (k0 k1 k2 n : Nat) : Prop := CallSpec Try.prog 11 A [(k0, .cells [vi a2, vs k1 0 L3.length L3.length, Value.int .u32 (1 : Int), Value.int .i32 (0 : Int), Value.int .u32 (0 : Int), Value.map (some k2)] 64), (k1, .cells (rowV E_ii L3) 42), (k2, .ro (mapV L4) true)] (vi w2) [] n 0

theorem rset_Rset_Add_3C0 (A : Array Value) (a0 a1 a2 : Int) (L3 L4 : List R_ii) (w2 : Int) (N : Nat) (h : rset_Rset_Add_3 a0 a1 a2 L3 L4 N = some (.r0 w2)) (k0 k1 k2 n : Nat) (hA : A = #[vp k0 0, vi a0, vi a1]) (hnd : ([k0, k1, k2] : List Nat).Nodup) (hlt : ∀ k ∈ ([k0, k1, k2] : List Nat), k < n) : rset_Rset_Add_3P0 A a0 a1 a2 L3 L4 w2 k0 k1 k2 n :=
 cs_args hA (LSpec.callL (show LSpec Try.prog 11 #[vp 0 0, vi a0, vi a1] [.cells [vi a2, vs 1 0 L3.length L3.length, Value.int .u32 (1 : Int), Value.int .i32 (0 : Int), Value.int .u32 (0 : Int), Value.map (some 2)] 64, .cells (rowV E_ii L3) 42, .ro (mapV L4) true] (vi w2) [some (.cells [vi a2, vs 1 0 L3.length L3.length, Value.int .u32 (1 : Int), Value.int .i32 (0 : Int), Value.int .u32 (0 : Int), Value.map (some 2)] 64), some (.cells (rowV E_ii L3) 42), some (.ro (mapV L4) true)] from rset_Rset_Add_3_spec a0 a1 a2 L3 L4 N _ h) [k0, k1, k2] n [] rfl hnd hlt (show 3 ≤ 3 from by decide) (show ∀ j ∈ ([] : List Nat), j < 3 from by decide) (by rfl) ⟨rfl, ⟨(under_row _ _ _), ⟨rfl, trivial⟩⟩⟩ (by rfl) ⟨rfl, ⟨(under_row _ _ _), ⟨rfl, trivial⟩⟩⟩ ⟨.inr rfl, ⟨.inr rfl, ⟨.inr rfl, trivial⟩⟩⟩ rfl rfl rfl (cons_eq (pair_eq rfl rfl) (cons_eq (pair_eq rfl (renO_row _ _ _)) (cons_eq (pair_eq rfl rfl) rfl))) rfl)

noncomputable def rset_Rset_Add_3T1 (a0 a1 a2 : Int) (L3 L4 : List R_ii) (k0 k1 k2 n : Nat) : Told := .call [(k0, .cells [vi a2, vs k1 0 L3.length L3.length, Value.int .u32 (1 : Int), Value.int .i32 (0 : Int), Value.int .u32 (0 : Int), Value.map (some k2)] 64), (k1, .cells (rowV E_ii L3) 42), (k2, .ro (mapV L4) true)] (vq) [(k0, some (.cells [vi a2, vs n 0 (L3.length + 1) (L3.length + 1), Value.int .u32 (1 : Int), Value.int .i32 (0 : Int), Value.int .u32 (0 : Int), Value.map (some k2)] 64)), (k1, none), (k2, some (.ro (mapV (mPut L4 a0 ((L3.length : Nat) : Int))) true)), (n, some (.cells (rowV E_ii (L3 ++ ([(⟨a0, a1⟩ : R_ii)] : List R_ii))) 42))] 1
def rset_Rset_Add_3P1 (A : Array Value) (a0 a1 a2 : Int) (L3 L4 : List R_ii) (k0 k1 k2 n : Nat) : Prop := CallSpec Try.prog 11 A [(k0, .cells [vi a2, vs k1 0 L3.length L3.length, Value.int .u32 (1 : Int), Value.int .i32 (0 : Int), Value.int .u32 (0 : Int), Value.map (some k2)] 64), (k1, .cells (rowV E_ii L3) 42), (k2, .ro (mapV L4) true)] (vq) [(k0, some (.cells [vi a2, vs n 0 (L3.length + 1) (L3.length + 1), Value.int .u32 (1 : Int), Value.int .i32 (0 : Int), Value.int .u32 (0 : Int), Value.map (some k2)] 64)), (k1, none), (k2, some (.ro (mapV (mPut L4 a0 ((L3.length : Nat) : Int))) true)), (n, some (.cells (rowV E_ii (L3 ++ ([(⟨a0, a1⟩ : R_ii)] : List R_ii))) 42))] n 1

theorem rset_Rset_Add_3C1 (A : Array Value) (a0 a1 a2 : Int) (L3 L4 : List R_ii) (N : Nat) (h : rset_Rset_Add_3 a0 a1 a2 L3 L4 N = some (.r1)) (k0 k1 k2 n : Nat) (hA : A = #[vp k0 0, vi a0, vi a1]) (hnd : ([k0, k1, k2] : List Nat).Nodup) (hlt : ∀ k ∈ ([k0, k1, k2] : List Nat), k < n) : rset_Rset_Add_3P1 A a0 a1 a2 L3 L4 k0 k1 k2 n :=
 cs_args hA (LSpec.callL (show LSpec Try.prog 11 #[vp 0 0, vi a0, vi a1] [.cells [vi a2, vs 1 0 L3.length L3.length, Value.int .u32 (1 : Int), Value.int .i32 (0 : Int), Value.int .u32 (0 : Int), Value.map (some 2)] 64, .cells (rowV E_ii L3) 42, .ro (mapV L4) true] (vq) [some (.cells [vi a2, vs 3 0 (L3.length + 1) (L3.length + 1), Value.int .u32 (1 : Int), Value.int .i32 (0 : Int), Value.int .u32 (0 : Int), Value.map (some 2)] 64), none, some (.ro (mapV (mPut L4 a0 ((L3.length : Nat) : Int))) true), some (.cells (rowV E_ii (L3 ++ ([(⟨a0, a1⟩ : R_ii)] : List R_ii))) 42)] from rset_Rset_Add_3_spec a0 a1 a2 L3 L4 N _ h) [k0, k1, k2] n [0, 1, 2, 3] rfl hnd hlt (show 3 ≤ 4 from by decide) (show ∀ j ∈ ([0, 1, 2, 3] : List Nat), j < 4 from by decide) (by rfl) ⟨rfl, ⟨(under_row _ _ _), ⟨rfl, trivial⟩⟩⟩ (by rfl) ⟨rfl, ⟨rfl, ⟨(under_row _ _ _), trivial⟩⟩⟩ ⟨.inl (by decide), ⟨.inl (by decide), ⟨.inl (by decide), ⟨(by decide), trivial⟩⟩⟩⟩ rfl rfl rfl (cons_eq (pair_eq rfl rfl) (cons_eq (pair_eq rfl (renO_row _ _ _)) (cons_eq (pair_eq rfl rfl) rfl))) (cons_eq (pair_eq rfl (some_eq rfl)) (cons_eq (pair_eq rfl rfl) (cons_eq (pair_eq rfl (some_eq rfl)) (cons_eq (pair_eq rfl (some_eq (renO_row _ _ _))) rfl)))))

noncomputable def ref06_Add_2V (a0 : Int) (L1 : List R_ii) (a2 a3 : Int) : ref06_Add_2R → Value
 | .r0 w2 => Value.tuple #[Value.agg #[vi a0, vs 0 0 L1.length L1.length], vi w2]
 | .r1 w2 => Value.tuple #[Value.agg #[vi a0, vs 1 0 w2.length w2.length], vq]
noncomputable def ref06_Add_2Po (a0 : Int) (L1 : List R_ii) (a2 a3 : Int) : ref06_Add_2R → List (Option AObj)
 | .r0 w2 => [some (.cells (rowV E_ii L1) 42)]
 | .r1 w2 => [some (.cells (rowV E_ii L1) 42), some (.cells (rowV E_ii w2) 42)]

theorem ref06_Add_2_fx (a0 : Int) (L1 : List R_ii) (a2 a3 : Int) (N : Nat) : Fx Try.prog ext_Sr Try.f12 [.cells (rowV E_ii L1) 42] #[Value.agg #[vi a0, vs 0 0 L1.length L1.length], vi a2, vi a3] (ref06_Add_2V a0 L1 a2 a3) (ref06_Add_2Po a0 L1 a2 a3) (ref06_Add_2 a0 L1 a2 a3 N) := by
 unfold ref06_Add_2
 refine fx_ite (fun g0 => ?_) (fun g0 => ?_)
 ·
  exact fx_fin (r := (.r0 ((1 : Int)) : ref06_Add_2R)) (fu := 4000) (orc := (orcw [(0, true)] [] [] [] [])) (live := [0]) (u := Value.tuple #[Value.agg #[vi a0, vs 0 0 L1.length L1.length], vi (1 : Int)]) (bl := [some (.cells (rowV E_ii L1) 42)]) (ob := [((decide (a2 < (0 : Int))), true)]) (by kernel_rfl) (oY obs_nil) rfl (by decide) (by rfl) rr ⟨(same_row (E := E_ii) (α := R_ii) _ L1 _), trivial⟩
 ·
  refine fx_ite (fun g1 => ?_) (fun g1 => ?_)
  ·
   exact fx_fin (r := (.r0 ((1 : Int)) : ref06_Add_2R)) (fu := 4000) (orc := (orcw [(0, false), (1, true)] [] [] [] [])) (live := [0]) (u := Value.tuple #[Value.agg #[vi a0, vs 0 0 L1.length L1.length], vi (1 : Int)]) (bl := [some (.cells (rowV E_ii L1) 42)]) (ob := [((decide (a2 > (1023 : Int))), true), ((decide (a2 < (0 : Int))), false)]) (by kernel_rfl) (oY <| oN obs_nil) rfl (by decide) (by rfl) rr ⟨(same_row (E := E_ii) (α := R_ii) _ L1 _), trivial⟩
  ·
   refine fx_ite (fun g2 => ?_) (fun g2 => ?_)
   ·
    exact fx_fin (r := (.r0 ((1 : Int)) : ref06_Add_2R)) (fu := 4000) (orc := (orcw [(0, false), (1, false), (2, true)] [] [] [] [])) (live := [0]) (u := Value.tuple #[Value.agg #[vi a0, vs 0 0 L1.length L1.length], vi (1 : Int)]) (bl := [some (.cells (rowV E_ii L1) 42)]) (ob := [((decide (a3 < (0 : Int))), true), ((decide (a2 > (1023 : Int))), false), ((decide (a2 < (0 : Int))), false)]) (by kernel_rfl) (oY <| oN <| oN obs_nil) rfl (by decide) (by rfl) rr ⟨(same_row (E := E_ii) (α := R_ii) _ L1 _), trivial⟩
   ·
    refine fx_ite (fun g3 => ?_) (fun g3 => ?_)
    ·
     exact fx_fin (r := (.r0 ((1 : Int)) : ref06_Add_2R)) (fu := 4000) (orc := (orcw [(0, false), (1, false), (2, false), (3, true)] [] [] [] [])) (live := [0]) (u := Value.tuple #[Value.agg #[vi a0, vs 0 0 L1.length L1.length], vi (1 : Int)]) (bl := [some (.cells (rowV E_ii L1) 42)]) (ob := [((decide (a3 > (2199023255552 : Int))), true), ((decide (a3 < (0 : Int))), false), ((decide (a2 > (1023 : Int))), false), ((decide (a2 < (0 : Int))), false)]) (by kernel_rfl) (oY <| oN <| oN <| oN obs_nil) rfl (by decide) (by rfl) rr ⟨(same_row (E := E_ii) (α := R_ii) _ L1 _), trivial⟩
    ·
     refine fx_bind (fun z4 c4 => ?_)
     cases z4 with
     | r0 y4_0 y4_1 =>
      refine fx_ite (fun g5 => ?_) (fun g5 => ?_)
      ·
       subst g5
       exact fx_fin (r := (.r0 ((0 : Int)) : ref06_Add_2R)) (fu := 4000) (orc := (orcw [(0, false), (1, false), (2, false), (3, false)] [] [] [] [(0, (ref06_Has_2T0 (a0) (L1) (a2)  y4_0 true 0 3))])) (live := [0]) (u := Value.tuple #[Value.agg #[vi a0, vs 0 0 L1.length L1.length], vq]) (bl := [some (.cells (rowV E_ii L1) 42)]) (ob := [(dP (ref06_Has_2P0 #[Value.agg #[vi a0, vs 0 0 L1.length L1.length], vi a2] (a0) (L1) (a2)  y4_0 true 0 3), true), (dS (rowV E_ii L1), true), ((decide (a3 > (2199023255552 : Int))), false), ((decide (a3 < (0 : Int))), false), ((decide (a2 > (1023 : Int))), false), ((decide (a2 < (0 : Int))), false)]) (by kernel_rfl) (obs_cons (dP_of (ref06_Has_2C0 #[Value.agg #[vi a0, vs 0 0 L1.length L1.length], vi a2] (a0) (L1) (a2)  y4_0 true N c4 0 3 rfl (by decide) (by decide))) <| oR <| oN <| oN <| oN <| oN obs_nil) rfl (by decide) (by rfl) rr ⟨(same_row (E := E_ii) (α := R_ii) _ L1 _), trivial⟩
      ·
       obtain rfl : y4_1 = false := by simpa using g5
       refine fx_ite (fun g6 => ?_) (fun g6 => ?_)
       ·
        exact fx_fin (r := (.r0 ((60 : Int)) : ref06_Add_2R)) (fu := 4000) (orc := (orcw [(0, false), (1, false), (2, false), (3, false), (4, true)] [] [] [] [(0, (ref06_Has_2T0 (a0) (L1) (a2)  y4_0 false 0 3))])) (live := [0]) (u := Value.tuple #[Value.agg #[vi a0, vs 0 0 L1.length L1.length], vi (60 : Int)]) (bl := [some (.cells (rowV E_ii L1) 42)]) (ob := [((decide (((L1.length : Nat) : Int) ≥ a0)), true), (dP (ref06_Has_2P0 #[Value.agg #[vi a0, vs 0 0 L1.length L1.length], vi a2] (a0) (L1) (a2)  y4_0 false 0 3), true), (dS (rowV E_ii L1), true), ((decide (a3 > (2199023255552 : Int))), false), ((decide (a3 < (0 : Int))), false), ((decide (a2 > (1023 : Int))), false), ((decide (a2 < (0 : Int))), false)]) (by kernel_rfl) (oY <| obs_cons (dP_of (ref06_Has_2C0 #[Value.agg #[vi a0, vs 0 0 L1.length L1.length], vi a2] (a0) (L1) (a2)  y4_0 false N c4 0 3 rfl (by decide) (by decide))) <| oR <| oN <| oN <| oN <| oN obs_nil) rfl (by decide) (by rfl) rr ⟨(same_row (E := E_ii) (α := R_ii) _ L1 _), trivial⟩
       ·
        refine fx_ite (fun g7 => ?_) (fun g7 => ?_)
        ·
         exact fx_fin (r := (.r1 (([(⟨a2, a3⟩ : R_ii)] : List R_ii)) : ref06_Add_2R)) (fu := 4000) (orc := (orcw [(0, false), (1, false), (2, false), (3, false), (4, false)] [] [] [] [(0, (ref06_Has_2T0 (a0) (L1) (a2)  y4_0 false 0 3)), (1, .ap0)])) (live := [0, 4]) (u := Value.tuple #[Value.agg #[vi a0, vs 4 0 1 1], vq]) (bl := [some (.cells (rowV E_ii L1) 42), some (.cells [vi a2, vi a3] 42)]) (ob := [(dP (0 = L1.length ∧ takeN (L1.length * 2) (List.drop 0 (rowV E_ii L1)) = some [] ∧ allB cell1 [] = true), true), ((decide (((L1.length : Nat) : Int) ≥ a0)), false), (dP (ref06_Has_2P0 #[Value.agg #[vi a0, vs 0 0 L1.length L1.length], vi a2] (a0) (L1) (a2)  y4_0 false 0 3), true), (dS (rowV E_ii L1), true), ((decide (a3 > (2199023255552 : Int))), false), ((decide (a3 < (0 : Int))), false), ((decide (a2 > (1023 : Int))), false), ((decide (a2 < (0 : Int))), false)]) (by kernel_rfl) (obs_cons (dP_of ⟨by omega, by rw [show L1.length = 0 by omega]; rfl, rfl⟩) <| oN <| obs_cons (dP_of (ref06_Has_2C0 #[Value.agg #[vi a0, vs 0 0 L1.length L1.length], vi a2] (a0) (L1) (a2)  y4_0 false N c4 0 3 rfl (by decide) (by decide))) <| oR <| oN <| oN <| oN <| oN obs_nil) rfl (by decide) (by rfl) ⟨Eq.trans (show (Value.tuple #[Value.agg #[vi a0, vs 1 0 ([(⟨a2, a3⟩ : R_ii)] : List R_ii).length ([(⟨a2, a3⟩ : R_ii)] : List R_ii).length], vq] : Value) = Value.tuple #[Value.agg #[vi a0, vs 1 0 1 1], vq] from (tuple_eq (cons_eq (agg_eq (cons_eq rfl (cons_eq (slice_eq rfl eqA eqA) rfl))) (cons_eq rfl rfl)))) (by rfl), by rfl⟩ ⟨(same_row (E := E_ii) (α := R_ii) _ L1 _), ⟨(same_cells (E := E_ii) _ (L := ([(⟨a2, a3⟩ : R_ii)] : List R_ii)) _ (show ([vi a2, vi a3] : List Value) = rowV E_ii ([(⟨a2, a3⟩ : R_ii)] : List R_ii) from rfl)), trivial⟩⟩
        ·
         refine fx_ite (fun g8 => ?_) (fun g8 => ?_)
         ·
          exact fx_fin (r := (.r1 ((L1 ++ ([(⟨a2, a3⟩ : R_ii)] : List R_ii))) : ref06_Add_2R)) (fu := 4000) (orc := (orcw [(0, false), (1, false), (2, false), (3, false), (4, false)] [] [] [] [(0, (ref06_Has_2T0 (a0) (L1) (a2)  y4_0 false 0 3)), (1, .ap L1.length (rowV E_ii L1) (rowV E_ii L1)), (2, .ap 1 [vi a2, vi a3] (rowV E_ii (L1 ++ ([(⟨a2, a3⟩ : R_ii)] : List R_ii))))])) (live := [0, 5]) (u := Value.tuple #[Value.agg #[vi a0, vs 5 0 (L1.length + 1) (L1.length + 1)], vq]) (bl := [some (.cells (rowV E_ii L1) 42), some (.cells (rowV E_ii (L1 ++ ([(⟨a2, a3⟩ : R_ii)] : List R_ii))) 42)]) (ob := [(dP ((1 = 1 ∧ takeN (1 * 2) (List.drop 0 [vi a2, vi a3]) = some [vi a2, vi a3] ∧ allB cell1 [vi a2, vi a3] = true) ∧ 0 < 1 ∧ 1 ≤ 100000 ∧ L1.length < L1.length + 1 ∧ L1.length ≤ 100000 ∧ L1.length * 2 ≤ (List.length (rowV E_ii L1)) ∧ List.take (L1.length * 2) (rowV E_ii L1) ++ [vi a2, vi a3] = (rowV E_ii (L1 ++ ([(⟨a2, a3⟩ : R_ii)] : List R_ii)))), true), (dP ((L1.length = L1.length ∧ takeN (L1.length * 2) (List.drop 0 (rowV E_ii L1)) = some (rowV E_ii L1) ∧ allB cell1 (rowV E_ii L1) = true) ∧ 0 < L1.length ∧ L1.length ≤ 100000 ∧ (rowV E_ii L1) = (rowV E_ii L1)), true), ((decide (((L1.length : Nat) : Int) ≥ a0)), false), (dP (ref06_Has_2P0 #[Value.agg #[vi a0, vs 0 0 L1.length L1.length], vi a2] (a0) (L1) (a2)  y4_0 false 0 3), true), (dS (rowV E_ii L1), true), ((decide (a3 > (2199023255552 : Int))), false), ((decide (a3 < (0 : Int))), false), ((decide (a2 > (1023 : Int))), false), ((decide (a2 < (0 : Int))), false)]) (by kernel_rfl) (obs_cons (dP_of ⟨⟨rfl, ⟨rfl, rfl⟩⟩, by omega, by omega, ltA, by omega, (rowV_dst (E := E_ii) (L := L1) (M := ([(⟨a2, a3⟩ : R_ii)] : List R_ii)) (n := L1.length) (show _ = _ * 2 from rfl) (by omega) (R := (L1 ++ ([(⟨a2, a3⟩ : R_ii)] : List R_ii))) (by rw [List.take_of_length_le (by omega)]))⟩) <| obs_cons (dP_of ⟨⟨rfl, (src_row (E := E_ii) (L := L1) (a := 0) (n := L1.length) (by omega) (by show _ = _ * 2; omega) (show _ = _ * 2 from rfl) (by rw [List.drop_zero, List.take_of_length_le (by omega)]))⟩, by omega, by omega, rfl⟩) <| oN <| obs_cons (dP_of (ref06_Has_2C0 #[Value.agg #[vi a0, vs 0 0 L1.length L1.length], vi a2] (a0) (L1) (a2)  y4_0 false N c4 0 3 rfl (by decide) (by decide))) <| oR <| oN <| oN <| oN <| oN obs_nil) rfl (by decide) (by rfl) ⟨Eq.trans (show (Value.tuple #[Value.agg #[vi a0, vs 1 0 (L1 ++ ([(⟨a2, a3⟩ : R_ii)] : List R_ii)).length (L1 ++ ([(⟨a2, a3⟩ : R_ii)] : List R_ii)).length], vq] : Value) = Value.tuple #[Value.agg #[vi a0, vs 1 0 (L1.length + 1) (L1.length + 1)], vq] from (tuple_eq (cons_eq (agg_eq (cons_eq rfl (cons_eq (slice_eq rfl eqA eqA) rfl))) (cons_eq rfl rfl)))) (by rfl), by rfl⟩ ⟨(same_row (E := E_ii) (α := R_ii) _ L1 _), ⟨(same_row (E := E_ii) (α := R_ii) _ (L1 ++ ([(⟨a2, a3⟩ : R_ii)] : List R_ii)) _), trivial⟩⟩
         ·
          exact fx_none

theorem ref06_Add_2_spec (a0 : Int) (L1 : List R_ii) (a2 a3 : Int) (N : Nat) (r : ref06_Add_2R) (h : ref06_Add_2 a0 L1 a2 a3 N = some r) : LSpec Try.prog 12 #[Value.agg #[vi a0, vs 0 0 L1.length L1.length], vi a2, vi a3] [.cells (rowV E_ii L1) 42] (ref06_Add_2V a0 L1 a2 a3 r) (ref06_Add_2Po a0 L1 a2 a3 r) :=
 fx_spec fit_Sr Try.func12 (by kernel_rfl) (by kernel_rfl) (fun r => by cases r <;> exact le_far _ rfl) (ref06_Add_2_fx a0 L1 a2 a3 N) h

noncomputable def ref06_Add_2T0 (a0 : Int) (L1 : List R_ii) (a2 a3 w2 : Int) (k0 n : Nat) : Told := .call [(k0, .cells (rowV E_ii L1) 42)] (Value.tuple #[Value.agg #[vi a0, vs k0 0 L1.length L1.length], vi w2]) [] 0
def ref06_Add_2P0 (A : Array Value) (a0 : Int) (L1 : List R_ii) (a2 a3 w2 : Int) (k0 n : Nat) : Prop := CallSpec Try.prog 12 A [(k0, .cells (rowV E_ii L1) 42)] (Value.tuple #[Value.agg #[vi a0, vs k0 0 L1.length L1.length], vi w2]) [] n 0

theorem ref06_Add_2C0 (A : Array Value) (a0 : Int) (L1 : List R_ii) (a2 a3 w2 : Int) (N : Nat) (h : ref06_Add_2 a0 L1 a2 a3 N = some (.r0 w2)) (k0 n : Nat) (hA : A = #[Value.agg #[vi a0, vs k0 0 L1.length L1.length], vi a2, vi a3]) (hnd : ([k0] : List Nat).Nodup) (hlt : ∀ k ∈ ([k0] : List Nat), k < n) : ref06_Add_2P0 A a0 L1 a2 a3 w2 k0 n :=
 cs_args hA (LSpec.callL (show LSpec Try.prog 12 #[Value.agg #[vi a0, vs 0 0 L1.length L1.length], vi a2, vi a3] [.cells (rowV E_ii L1) 42] (Value.tuple #[Value.agg #[vi a0, vs 0 0 L1.length L1.length], vi w2]) [some (.cells (rowV E_ii L1) 42)] from ref06_Add_2_spec a0 L1 a2 a3 N _ h) [k0] n [] rfl hnd hlt (show 1 ≤ 1 from by decide) (show ∀ j ∈ ([] : List Nat), j < 1 from by decide) (by rfl) ⟨(under_row _ _ _), trivial⟩ (by rfl) ⟨(under_row _ _ _), trivial⟩ ⟨.inr rfl, trivial⟩ rfl rfl rfl (cons_eq (pair_eq rfl (renO_row _ _ _)) rfl) rfl)

noncomputable def ref06_Add_2T1 (a0 : Int) (L1 : List R_ii) (a2 a3 : Int) (w2 : List R_ii) (k0 n : Nat) : Told := .call [(k0, .cells (rowV E_ii L1) 42)] (Value.tuple #[Value.agg #[vi a0, vs n 0 w2.length w2.length], vq]) [(n, some (.cells (rowV E_ii w2) 42))] 1
def ref06_Add_2P1 (A : Array Value) (a0 : Int) (L1 : List R_ii) (a2 a3 : Int) (w2 : List R_ii) (k0 n : Nat) : Prop := CallSpec Try.prog 12 A [(k0, .cells (rowV E_ii L1) 42)] (Value.tuple #[Value.agg #[vi a0, vs n 0 w2.length w2.length], vq]) [(n, some (.cells (rowV E_ii w2) 42))] n 1

theorem ref06_Add_2C1 (A : Array Value) (a0 : Int) (L1 : List R_ii) (a2 a3 : Int) (w2 : List R_ii) (N : Nat) (h : ref06_Add_2 a0 L1 a2 a3 N = some (.r1 w2)) (k0 n : Nat) (hA : A = #[Value.agg #[vi a0, vs k0 0 L1.length L1.length], vi a2, vi a3]) (hnd : ([k0] : List Nat).Nodup) (hlt : ∀ k ∈ ([k0] : List Nat), k < n) : ref06_Add_2P1 A a0 L1 a2 a3 w2 k0 n :=
 cs_args hA (LSpec.callL (show LSpec Try.prog 12 #[Value.agg #[vi a0, vs 0 0 L1.length L1.length], vi a2, vi a3] [.cells (rowV E_ii L1) 42] (Value.tuple #[Value.agg #[vi a0, vs 1 0 w2.length w2.length], vq]) [some (.cells (rowV E_ii L1) 42), some (.cells (rowV E_ii w2) 42)] from ref06_Add_2_spec a0 L1 a2 a3 N _ h) [k0] n [1] rfl hnd hlt (show 1 ≤ 2 from by decide) (show ∀ j ∈ ([1] : List Nat), j < 2 from by decide) (by rfl) ⟨(under_row _ _ _), trivial⟩ (by rfl) ⟨(under_row _ _ _), ⟨(under_row _ _ _), trivial⟩⟩ ⟨.inr rfl, ⟨(by decide), trivial⟩⟩ rfl rfl rfl (cons_eq (pair_eq rfl (renO_row _ _ _)) rfl) (cons_eq (pair_eq rfl (some_eq (renO_row _ _ _))) rfl))

noncomputable def rset_Rset_Has_3V (a0 a1 : Int) (L2 : List R_ii) : rset_Rset_Has_3R → Value
 | .r0 => Value.tuple #[vq, vf]
noncomputable def rset_Rset_Has_3Po (a0 a1 : Int) (L2 : List R_ii) : rset_Rset_Has_3R → List (Option AObj)
 | .r0 => [some (.cells [vi a1, vn, Value.int .u32 (1 : Int), Value.int .i32 (0 : Int), Value.int .u32 (0 : Int), Value.map (some 1)] 64), some (.ro (mapV L2) true)]

theorem rset_Rset_Has_3_fx (a0 a1 : Int) (L2 : List R_ii) (N : Nat) : Fx Try.prog ext_Sr Try.f13 [.cells [vi a1, vn, Value.int .u32 (1 : Int), Value.int .i32 (0 : Int), Value.int .u32 (0 : Int), Value.map (some 1)] 64, .ro (mapV L2) true] #[vp 0 0, vi a0] (rset_Rset_Has_3V a0 a1 L2) (rset_Rset_Has_3Po a0 a1 L2) (rset_Rset_Has_3 a0 a1 L2 N) := by
 unfold rset_Rset_Has_3
 refine fx_ite (fun g0 => ?_) (fun g0 => ?_)
 ·
  refine fx_ite (fun g1 => ?_) (fun g1 => ?_)
  ·
   exact fx_none
  ·
   exact fx_fin (r := (.r0 : rset_Rset_Has_3R)) (fu := 4000) (orc := (orcw [(1, true)] [] [] [] [(1, .lk (none))])) (live := [0, 1]) (u := Value.tuple #[vq, vf]) (bl := [some (.cells [vi a1, vn, Value.int .u32 (1 : Int), Value.int .i32 (0 : Int), Value.int .u32 (0 : Int), Value.map (some 1)] 64), some (.ro (mapV L2) true)]) (ob := [(dP (lookE .i64 (vi a0) (mapE L2) = some (none)), true), ((decide (a1 > (0 : Int))), true)]) (by kernel_rfl) (obs_cons (dP_of (mp_none (by assumption))) <| oY obs_nil) rfl (by decide) (by rfl) rr ⟨⟨rfl, ⟨[], by rfl⟩, by rfl⟩, ⟨(show mapV L2 = mapV L2 from rfl), trivial⟩⟩
 ·
  exact fx_none

theorem rset_Rset_Has_3_spec (a0 a1 : Int) (L2 : List R_ii) (N : Nat) (r : rset_Rset_Has_3R) (h : rset_Rset_Has_3 a0 a1 L2 N = some r) : LSpec Try.prog 13 #[vp 0 0, vi a0] [.cells [vi a1, vn, Value.int .u32 (1 : Int), Value.int .i32 (0 : Int), Value.int .u32 (0 : Int), Value.map (some 1)] 64, .ro (mapV L2) true] (rset_Rset_Has_3V a0 a1 L2 r) (rset_Rset_Has_3Po a0 a1 L2 r) :=
 fx_spec fit_Sr Try.func13 (by kernel_rfl) (by kernel_rfl) (fun r => by cases r <;> exact le_far _ rfl) (rset_Rset_Has_3_fx a0 a1 L2 N) h

noncomputable def rset_Rset_Has_3T0 (a0 a1 : Int) (L2 : List R_ii) (k0 k1 n : Nat) : Told := .call [(k0, .cells [vi a1, vn, Value.int .u32 (1 : Int), Value.int .i32 (0 : Int), Value.int .u32 (0 : Int), Value.map (some k1)] 64), (k1, .ro (mapV L2) true)] (Value.tuple #[vq, vf]) [] 0
def rset_Rset_Has_3P0 (A : Array Value) (a0 a1 : Int) (L2 : List R_ii) (k0 k1 n : Nat) : Prop := CallSpec Try.prog 13 A [(k0, .cells [vi a1, vn, Value.int .u32 (1 : Int), Value.int .i32 (0 : Int), Value.int .u32 (0 : Int), Value.map (some k1)] 64), (k1, .ro (mapV L2) true)] (Value.tuple #[vq, vf]) [] n 0

theorem rset_Rset_Has_3C0 (A : Array Value) (a0 a1 : Int) (L2 : List R_ii) (N : Nat) (h : rset_Rset_Has_3 a0 a1 L2 N = some (.r0)) (k0 k1 n : Nat) (hA : A = #[vp k0 0, vi a0]) (hnd : ([k0, k1] : List Nat).Nodup) (hlt : ∀ k ∈ ([k0, k1] : List Nat), k < n) : rset_Rset_Has_3P0 A a0 a1 L2 k0 k1 n :=
 cs_args hA (LSpec.callL (show LSpec Try.prog 13 #[vp 0 0, vi a0] [.cells [vi a1, vn, Value.int .u32 (1 : Int), Value.int .i32 (0 : Int), Value.int .u32 (0 : Int), Value.map (some 1)] 64, .ro (mapV L2) true] (Value.tuple #[vq, vf]) [some (.cells [vi a1, vn, Value.int .u32 (1 : Int), Value.int .i32 (0 : Int), Value.int .u32 (0 : Int), Value.map (some 1)] 64), some (.ro (mapV L2) true)] from rset_Rset_Has_3_spec a0 a1 L2 N _ h) [k0, k1] n [] rfl hnd hlt (show 2 ≤ 2 from by decide) (show ∀ j ∈ ([] : List Nat), j < 2 from by decide) (by rfl) ⟨rfl, ⟨rfl, trivial⟩⟩ (by rfl) ⟨rfl, ⟨rfl, trivial⟩⟩ ⟨.inr rfl, ⟨.inr rfl, trivial⟩⟩ rfl rfl rfl (cons_eq (pair_eq rfl rfl) (cons_eq (pair_eq rfl rfl) rfl)) rfl)

noncomputable def rset_Rset_order_2V (a0 : Int) (L1 : List R_ii) : rset_Rset_order_2R → Value
 | .r0 w2 => vtt
noncomputable def rset_Rset_order_2Po (a0 : Int) (L1 : List R_ii) : rset_Rset_order_2R → List (Option AObj)
 | .r0 w2 => [some (.cells [vi a0, vs 1 0 L1.length L1.length, Value.int .u32 (0 : Int), Value.int .i32 (1 : Int), Value.int .u32 (0 : Int), Value.map (some 2)] 64), some (.cells (rowV E_ii L1) 42), some (.ro (mapV w2) true)]

def rset_Rset_order_2Hd : rset_Rset_order_2X → Nat
 | .h1m0 v2 v4 => 1
noncomputable def rset_Rset_order_2L (a0 : Int) (L1 : List R_ii) : rset_Rset_order_2X → List (Nat × Value)
 | .h1m0 v2 v4 => [(0, vp 0 0), (11, vs 1 0 L1.length L1.length), (12, vi ((L1.length : Nat) : Int)), (13, vi (v2 : Int))]
noncomputable def rset_Rset_order_2H (a0 : Int) (L1 : List R_ii) : rset_Rset_order_2X → List (Option AObj)
 | .h1m0 v2 v4 => [some (.cells [vi a0, vs 1 0 L1.length L1.length, Value.int .u32 (0 : Int), Value.int .i32 (1 : Int), Value.int .u32 (0 : Int), Value.map (some 2)] 64), some (.cells (rowV E_ii L1) 42), some (.ro (mapV v4) true)]

noncomputable def rset_Rset_order_2C : Nat → Code × List Kont
 | 1 => headOf [1, 1, 3] (bodyC Try.f23) []
 | _ => (.skip, [])
def rset_Rset_order_2IL : Nat → Bool
 | 1 => true
 | _ => true
noncomputable def rset_Rset_order_2K (i : Nat) : List Kont := match rset_Rset_order_2IL i with | true => .rnd i :: (rset_Rset_order_2C i).2 | false => (rset_Rset_order_2C i).2

noncomputable def rset_Rset_order_2M (a0 : Int) (L1 : List R_ii) (N : Nat) : Mach := ⟨Try.f23, [.cells [vi a0, vs 1 0 L1.length L1.length, Value.int .u32 (0 : Int), Value.int .i32 (1 : Int), Value.int .u32 (0 : Int), Value.map none] 64, .cells (rowV E_ii L1) 42], rset_Rset_order_2X, rset_Rset_order_2R, rset_Rset_order_2Step a0 L1 N, rset_Rset_order_2Hd, rset_Rset_order_2C, rset_Rset_order_2IL, rset_Rset_order_2L a0 L1, rset_Rset_order_2H a0 L1, rset_Rset_order_2V a0 L1, rset_Rset_order_2Po a0 L1⟩

theorem rset_Rset_order_2_ok1_0 (a0 : Int) (L1 : List R_ii) (v2 : Nat) (v4 : List R_ii) (N : Nat) : (rset_Rset_order_2M a0 L1 N).Ok Try.prog ext_Sr (.h1m0 v2 v4 : rset_Rset_order_2X) (rset_Rset_order_2Step a0 L1 N (.h1m0 v2 v4 : rset_Rset_order_2X)) := by
 show (rset_Rset_order_2M a0 L1 N).Ok Try.prog ext_Sr (.h1m0 v2 v4 : rset_Rset_order_2X) (rset_Rset_order_2_h1m0 a0 L1 N v2 v4)
 unfold rset_Rset_order_2_h1m0
 refine Mach.ok_ite (fun g0 => ?_) (fun g0 => ?_)
 ·
  refine Mach.ok_ite (fun g1 => ?_) (fun g1 => ?_)
  ·
   exact Mach.ok_next (M := rset_Rset_order_2M a0 L1 N) (cd := 1000000) (cm := 0) (y := (.h1m0 ((v2 + 1)) ((mPut v4 (L1.getD v2 R_ii.z).a0 (v2 : Int))) : rset_Rset_order_2X)) (fu := 4000) (orc := (orcw [(0, true)] [(0, (((v2 + 1) : Nat) : Int))] [(0, v2)] [(0, [.i (L1.getD v2 R_ii.z).a0, .i (L1.getD v2 R_ii.z).a1])] [(1, .mp (mapE (mPut v4 (L1.getD v2 R_ii.z).a0 (v2 : Int))))])) (live := [0, 1, 2]) (tv := fun _ => [some (vp 0 0), some (vs 1 0 L1.length L1.length), some (vi ((L1.length : Nat) : Int)), some (vi (((v2 + 1) : Nat) : Int))]) (bl := [some (.cells [vi a0, vs 1 0 L1.length L1.length, Value.int .u32 (0 : Int), Value.int .i32 (1 : Int), Value.int .u32 (0 : Int), Value.map (some 2)] 64), some (.cells (rowV E_ii L1) 42), some (.ro (mapV (mPut v4 (L1.getD v2 R_ii.z).a0 (v2 : Int))) true)]) (ob := [((IntKind.i64.wrap ((v2 : Int) + (1 : Int))) == (((v2 + 1) : Nat) : Int), true), (dP (putE .i64 (vi (L1.getD v2 R_ii.z).a0) (vi (v2 : Int)) (mapE v4) = some (mapE (mPut v4 (L1.getD v2 R_ii.z).a0 (v2 : Int)))), true), (sameR (takeN 2 (List.drop (0 + (v2 * 2)) (rowV E_ii L1))) [.i (L1.getD v2 R_ii.z).a0, .i (L1.getD v2 R_ii.z).a1], true), (Nat.blt v2 L1.length, true), ((v2 : Int) == Int.ofNat v2, true), ((decide ((v2 : Int) < ((L1.length : Nat) : Int))), true)]) rfl (show 1 ∈ rids (rset_Rset_order_2K 1) from by decide +kernel) (fun gv => by kernel_rfl) (obs_cons (beq_iff_eq.2 ((wrap_i64 ltA).trans (by first | rfl | omega))) <| obs_cons (dP_of (mp_put _ _ _)) <| obs_cons (rowV_load (E := E_ii) (L := L1) (i := v2) (q := 0) (by omega) (show (0 + (v2 * 2)) = v2 * 2 + 0 from by omega) (show 0 + 2 ≤ 2 from by decide) rfl rfl) <| oB <| oI <| oY obs_nil) rfl (by decide) (by rfl) (fun _ => ⟨rr, ⟨rr, ⟨rr, ⟨rr, trivial⟩⟩⟩⟩) ⟨⟨rfl, ⟨[], by rfl⟩, by rfl⟩, ⟨(same_row (E := E_ii) (α := R_ii) _ L1 _), ⟨(show mapV (mPut v4 (L1.getD v2 R_ii.z).a0 (v2 : Int)) = mapV (mPut v4 (L1.getD v2 R_ii.z).a0 (v2 : Int)) from rfl), trivial⟩⟩⟩
  ·
   exact Mach.ok_none
 ·
  exact Mach.ok_fin (M := rset_Rset_order_2M a0 L1 N) (cd := 1000000) (cm := 0) (r := (.r0 (v4) : rset_Rset_order_2R)) (fu := 4000) (orc := (orcw [(0, false)] [] [] [] [])) (live := [0, 1, 2]) (u := vtt) (bl := [some (.cells [vi a0, vs 1 0 L1.length L1.length, Value.int .u32 (0 : Int), Value.int .i32 (1 : Int), Value.int .u32 (0 : Int), Value.map (some 2)] 64), some (.cells (rowV E_ii L1) 42), some (.ro (mapV v4) true)]) (ob := [((decide ((v2 : Int) < ((L1.length : Nat) : Int))), false)]) (fun gv => by kernel_rfl) (oN obs_nil) rfl (by decide) (by rfl) rr ⟨⟨rfl, ⟨[], by rfl⟩, by rfl⟩, ⟨(same_row (E := E_ii) (α := R_ii) _ L1 _), ⟨(show mapV v4 = mapV v4 from rfl), trivial⟩⟩⟩

theorem rset_Rset_order_2_en (a0 : Int) (L1 : List R_ii) (N : Nat) : (rset_Rset_order_2M a0 L1 N).Enter Try.prog ext_Sr #[vp 0 0] (rset_Rset_order_2In a0 L1 N) := by
 unfold rset_Rset_order_2In
 exact Mach.en_head (bK := rset_Rset_order_2C 1) (M := rset_Rset_order_2M a0 L1 N) (cd := 1000000) (cm := 0) (y := (.h1m0 (0) (([] : List R_ii)) : rset_Rset_order_2X)) (fu := 4000) (orc := (orcw [] [] [] [] [])) (live := [0, 1, 2]) (tv := [some (vp 0 0), some (vs 1 0 L1.length L1.length), some (vi ((L1.length : Nat) : Int)), some (vq)]) (bl := [some (.cells [vi a0, vs 1 0 L1.length L1.length, Value.int .u32 (0 : Int), Value.int .i32 (1 : Int), Value.int .u32 (0 : Int), Value.map (some 2)] 64), some (.cells (rowV E_ii L1) 42), some (.ro (mapV ([] : List R_ii)) true)]) (ob := []) rfl rfl (show rids (rset_Rset_order_2C 1).2 = [] from rfl) (by kernel_rfl) obs_nil rfl (by decide) (by rfl) ⟨rr, ⟨rr, ⟨rr, ⟨⟨Eq.trans (show (vi ((0 : Nat) : Int) : Value) = vq from (congrArg (Value.int .i64) (by first | rfl | omega))) (by rfl), by rfl⟩, trivial⟩⟩⟩⟩ ⟨⟨rfl, ⟨[], by rfl⟩, by rfl⟩, ⟨(same_row (E := E_ii) (α := R_ii) _ L1 _), ⟨(show mapV ([] : List R_ii) = mapV ([] : List R_ii) from rfl), trivial⟩⟩⟩

theorem rset_Rset_order_2_spec (a0 : Int) (L1 : List R_ii) (N : Nat) (r : rset_Rset_order_2R) (h : rset_Rset_order_2 a0 L1 N = some r) : LSpec Try.prog 23 #[vp 0 0] [.cells [vi a0, vs 1 0 L1.length L1.length, Value.int .u32 (0 : Int), Value.int .i32 (1 : Int), Value.int .u32 (0 : Int), Value.map none] 64, .cells (rowV E_ii L1) 42] (rset_Rset_order_2V a0 L1 r) (rset_Rset_order_2Po a0 L1 r) :=
 Mach.spec fit_Sr (rset_Rset_order_2M a0 L1 N) Try.func23 (by kernel_rfl) (by kernel_rfl) (fun x => by cases x <;> exact le_far _ rfl) (fun r => by cases r <;> exact le_far _ rfl) (fun x => by
  cases x with
  | h1m0 _ _ => exact fun _ => (show ¬ (1 ∈ rids (rset_Rset_order_2C 1).2) from by decide +kernel)
  ) (fun x => (show (rset_Rset_order_2M a0 L1 N).Ok Try.prog ext_Sr x (rset_Rset_order_2Step a0 L1 N x) from by
  cases x with
  | h1m0 v2 v4 => exact rset_Rset_order_2_ok1_0 a0 L1 v2 v4 N
  )) (rset_Rset_order_2_en a0 L1 N) (n := N) h

noncomputable def rset_Rset_order_2T0 (a0 : Int) (L1 w2 : List R_ii) (k0 k1 n : Nat) : Told := .call [(k0, .cells [vi a0, vs k1 0 L1.length L1.length, Value.int .u32 (0 : Int), Value.int .i32 (1 : Int), Value.int .u32 (0 : Int), Value.map none] 64), (k1, .cells (rowV E_ii L1) 42)] (vtt) [(k0, some (.cells [vi a0, vs k1 0 L1.length L1.length, Value.int .u32 (0 : Int), Value.int .i32 (1 : Int), Value.int .u32 (0 : Int), Value.map (some n)] 64)), (n, some (.ro (mapV w2) true))] 1
def rset_Rset_order_2P0 (A : Array Value) (a0 : Int) (L1 w2 : List R_ii) (k0 k1 n : Nat) : Prop := CallSpec Try.prog 23 A [(k0, .cells [vi a0, vs k1 0 L1.length L1.length, Value.int .u32 (0 : Int), Value.int .i32 (1 : Int), Value.int .u32 (0 : Int), Value.map none] 64), (k1, .cells (rowV E_ii L1) 42)] (vtt) [(k0, some (.cells [vi a0, vs k1 0 L1.length L1.length, Value.int .u32 (0 : Int), Value.int .i32 (1 : Int), Value.int .u32 (0 : Int), Value.map (some n)] 64)), (n, some (.ro (mapV w2) true))] n 1

theorem rset_Rset_order_2C0 (A : Array Value) (a0 : Int) (L1 w2 : List R_ii) (N : Nat) (h : rset_Rset_order_2 a0 L1 N = some (.r0 w2)) (k0 k1 n : Nat) (hA : A = #[vp k0 0]) (hnd : ([k0, k1] : List Nat).Nodup) (hlt : ∀ k ∈ ([k0, k1] : List Nat), k < n) : rset_Rset_order_2P0 A a0 L1 w2 k0 k1 n :=
 cs_args hA (LSpec.callL (show LSpec Try.prog 23 #[vp 0 0] [.cells [vi a0, vs 1 0 L1.length L1.length, Value.int .u32 (0 : Int), Value.int .i32 (1 : Int), Value.int .u32 (0 : Int), Value.map none] 64, .cells (rowV E_ii L1) 42] (vtt) [some (.cells [vi a0, vs 1 0 L1.length L1.length, Value.int .u32 (0 : Int), Value.int .i32 (1 : Int), Value.int .u32 (0 : Int), Value.map (some 2)] 64), some (.cells (rowV E_ii L1) 42), some (.ro (mapV w2) true)] from rset_Rset_order_2_spec a0 L1 N _ h) [k0, k1] n [0, 2] rfl hnd hlt (show 2 ≤ 3 from by decide) (show ∀ j ∈ ([0, 2] : List Nat), j < 3 from by decide) (by rfl) ⟨rfl, ⟨(under_row _ _ _), trivial⟩⟩ (by rfl) ⟨rfl, ⟨(under_row _ _ _), ⟨rfl, trivial⟩⟩⟩ ⟨.inl (by decide), ⟨.inr rfl, ⟨(by decide), trivial⟩⟩⟩ rfl rfl rfl (cons_eq (pair_eq rfl rfl) (cons_eq (pair_eq rfl (renO_row _ _ _)) rfl)) (cons_eq (pair_eq rfl (some_eq rfl)) (cons_eq (pair_eq rfl (some_eq rfl)) rfl)))

noncomputable def rset_Rset_Has_4V (a0 a1 : Int) (L2 : List R_ii) : rset_Rset_Has_4R → Value
 | .r0 w1 w2 w4 => Value.tuple #[vi w1, Value.bool w2]
noncomputable def rset_Rset_Has_4Po (a0 a1 : Int) (L2 : List R_ii) : rset_Rset_Has_4R → List (Option AObj)
 | .r0 w1 w2 w4 => [some (.cells [vi a1, vs 1 0 L2.length L2.length, Value.int .u32 (1 : Int), Value.int .i32 (0 : Int), Value.int .u32 (0 : Int), Value.map (some 2)] 64), some (.cells (rowV E_ii L2) 42), some (.ro (mapV w4) true)]

theorem rset_Rset_Has_4_fx (a0 a1 : Int) (L2 : List R_ii) (N : Nat) : Fx Try.prog ext_Sr Try.f13 [.cells [vi a1, vs 1 0 L2.length L2.length, Value.int .u32 (0 : Int), Value.int .i32 (0 : Int), Value.int .u32 (0 : Int), Value.map none] 64, .cells (rowV E_ii L2) 42] #[vp 0 0, vi a0] (rset_Rset_Has_4V a0 a1 L2) (rset_Rset_Has_4Po a0 a1 L2) (rset_Rset_Has_4 a0 a1 L2 N) := by
 unfold rset_Rset_Has_4
 refine fx_ite (fun g0 => ?_) (fun g0 => ?_)
 ·
  refine fx_bind (fun z1 c1 => ?_)
  cases z1 with
  | r0 y1_0 =>
   refine fx_ite (fun g2 => ?_) (fun g2 => ?_)
   ·
    refine fx_ite (fun g3 => ?_) (fun g3 => ?_)
    ·
     refine fx_ite (fun g4 => ?_) (fun g4 => ?_)
     ·
      exact fx_fin (r := (.r0 ((L2.getD ((mGet y1_0 a0)).toNat R_ii.z).a1) (true) (y1_0) : rset_Rset_Has_4R)) (fu := 4000) (orc := (orcw [(1, true), (5, true)] [] [(0, ((mGet y1_0 a0)).toNat)] [(4, [.i (L2.getD ((mGet y1_0 a0)).toNat R_ii.z).a1])] [(3, (rset_Rset_order_2T0 (a1) (L2)  y1_0 0 1 2)), (6, .lk (some (vi (mGet y1_0 a0))))])) (live := [0, 1, 2]) (u := Value.tuple #[vi (L2.getD ((mGet y1_0 a0)).toNat R_ii.z).a1, vT]) (bl := [some (.cells [vi a1, vs 1 0 L2.length L2.length, Value.int .u32 (1 : Int), Value.int .i32 (0 : Int), Value.int .u32 (0 : Int), Value.map (some 2)] 64), some (.cells (rowV E_ii L2) 42), some (.ro (mapV y1_0) true)]) (ob := [(sameR (takeN 1 (List.drop ((0 + (((mGet y1_0 a0)).toNat * 2)) + 1) (rowV E_ii L2))) [.i (L2.getD ((mGet y1_0 a0)).toNat R_ii.z).a1], true), (Nat.blt ((mGet y1_0 a0)).toNat L2.length, true), ((mGet y1_0 a0) == Int.ofNat ((mGet y1_0 a0)).toNat, true), (dP (lookE .i64 (vi a0) (mapE y1_0) = some (some (vi (mGet y1_0 a0)))), true), (dP (rset_Rset_order_2P0 #[vp 0 0] (a1) (L2)  y1_0 0 1 2), true), (dS [vi a1, vs 1 0 L2.length L2.length, Value.int .u32 (0 : Int), Value.int .i32 (1 : Int), Value.int .u32 (0 : Int), Value.map none], true), (dS (rowV E_ii L2), true), (((0 : Int) == (0 : Int)), true), ((decide (a1 > (0 : Int))), true)]) (by kernel_rfl) (obs_cons (rowV_load (E := E_ii) (L := L2) (i := ((mGet y1_0 a0)).toNat) (q := 1) (by omega) (show ((0 + (((mGet y1_0 a0)).toNat * 2)) + 1) = ((mGet y1_0 a0)).toNat * 2 + 1 from by omega) (show 1 + 1 ≤ 2 from by decide) rfl rfl) <| oB <| oI <| obs_cons (dP_of (mp_some (by assumption))) <| obs_cons (dP_of (rset_Rset_order_2C0 #[vp 0 0] (a1) (L2)  y1_0 N c1 0 1 2 rfl (by decide) (by decide))) <| obs_cons (dP_of (cons_eq rfl (cons_eq rfl (cons_eq rfl (cons_eq rfl (cons_eq rfl (cons_eq rfl rfl))))))) <| oR <| oT <| oY obs_nil) rfl (by decide) (by rfl) rr ⟨⟨rfl, ⟨[], by rfl⟩, by rfl⟩, ⟨(same_row (E := E_ii) (α := R_ii) _ L2 _), ⟨(show mapV y1_0 = mapV y1_0 from rfl), trivial⟩⟩⟩
     ·
      exact fx_none
    ·
     exact fx_none
   ·
    exact fx_fin (r := (.r0 ((0 : Int)) (false) (y1_0) : rset_Rset_Has_4R)) (fu := 4000) (orc := (orcw [(1, true), (5, true)] [] [] [] [(3, (rset_Rset_order_2T0 (a1) (L2)  y1_0 0 1 2)), (6, .lk (none))])) (live := [0, 1, 2]) (u := Value.tuple #[vq, vf]) (bl := [some (.cells [vi a1, vs 1 0 L2.length L2.length, Value.int .u32 (1 : Int), Value.int .i32 (0 : Int), Value.int .u32 (0 : Int), Value.map (some 2)] 64), some (.cells (rowV E_ii L2) 42), some (.ro (mapV y1_0) true)]) (ob := [(dP (lookE .i64 (vi a0) (mapE y1_0) = some (none)), true), (dP (rset_Rset_order_2P0 #[vp 0 0] (a1) (L2)  y1_0 0 1 2), true), (dS [vi a1, vs 1 0 L2.length L2.length, Value.int .u32 (0 : Int), Value.int .i32 (1 : Int), Value.int .u32 (0 : Int), Value.map none], true), (dS (rowV E_ii L2), true), (((0 : Int) == (0 : Int)), true), ((decide (a1 > (0 : Int))), true)]) (by kernel_rfl) (obs_cons (dP_of (mp_none (by assumption))) <| obs_cons (dP_of (rset_Rset_order_2C0 #[vp 0 0] (a1) (L2)  y1_0 N c1 0 1 2 rfl (by decide) (by decide))) <| obs_cons (dP_of (cons_eq rfl (cons_eq rfl (cons_eq rfl (cons_eq rfl (cons_eq rfl (cons_eq rfl rfl))))))) <| oR <| oT <| oY obs_nil) rfl (by decide) (by rfl) rr ⟨⟨rfl, ⟨[], by rfl⟩, by rfl⟩, ⟨(same_row (E := E_ii) (α := R_ii) _ L2 _), ⟨(show mapV y1_0 = mapV y1_0 from rfl), trivial⟩⟩⟩
 ·
  exact fx_none

theorem rset_Rset_Has_4_spec (a0 a1 : Int) (L2 : List R_ii) (N : Nat) (r : rset_Rset_Has_4R) (h : rset_Rset_Has_4 a0 a1 L2 N = some r) : LSpec Try.prog 13 #[vp 0 0, vi a0] [.cells [vi a1, vs 1 0 L2.length L2.length, Value.int .u32 (0 : Int), Value.int .i32 (0 : Int), Value.int .u32 (0 : Int), Value.map none] 64, .cells (rowV E_ii L2) 42] (rset_Rset_Has_4V a0 a1 L2 r) (rset_Rset_Has_4Po a0 a1 L2 r) :=
 fx_spec fit_Sr Try.func13 (by kernel_rfl) (by kernel_rfl) (fun r => by cases r <;> exact le_far _ rfl) (rset_Rset_Has_4_fx a0 a1 L2 N) h

noncomputable def rset_Rset_Has_4T0 (a0 a1 : Int) (L2 : List R_ii) (w1 : Int) (w2 : Bool) (w4 : List R_ii) (k0 k1 n : Nat) : Told := .call [(k0, .cells [vi a1, vs k1 0 L2.length L2.length, Value.int .u32 (0 : Int), Value.int .i32 (0 : Int), Value.int .u32 (0 : Int), Value.map none] 64), (k1, .cells (rowV E_ii L2) 42)] (Value.tuple #[vi w1, Value.bool w2]) [(k0, some (.cells [vi a1, vs k1 0 L2.length L2.length, Value.int .u32 (1 : Int), Value.int .i32 (0 : Int), Value.int .u32 (0 : Int), Value.map (some n)] 64)), (n, some (.ro (mapV w4) true))] 1
def rset_Rset_Has_4P0 (A : Array Value) (a0 a1 : Int) (L2 : List R_ii) (w1 : Int) (w2 : Bool) (w4 : List R_ii) (k0 k1 n : Nat) : Prop := CallSpec Try.prog 13 A [(k0, .cells [vi a1, vs k1 0 L2.length L2.length, Value.int .u32 (0 : Int), Value.int .i32 (0 : Int), Value.int .u32 (0 : Int), Value.map none] 64), (k1, .cells (rowV E_ii L2) 42)] (Value.tuple #[vi w1, Value.bool w2]) [(k0, some (.cells [vi a1, vs k1 0 L2.length L2.length, Value.int .u32 (1 : Int), Value.int .i32 (0 : Int), Value.int .u32 (0 : Int), Value.map (some n)] 64)), (n, some (.ro (mapV w4) true))] n 1

theorem rset_Rset_Has_4C0 (A : Array Value) (a0 a1 : Int) (L2 : List R_ii) (w1 : Int) (w2 : Bool) (w4 : List R_ii) (N : Nat) (h : rset_Rset_Has_4 a0 a1 L2 N = some (.r0 w1 w2 w4)) (k0 k1 n : Nat) (hA : A = #[vp k0 0, vi a0]) (hnd : ([k0, k1] : List Nat).Nodup) (hlt : ∀ k ∈ ([k0, k1] : List Nat), k < n) : rset_Rset_Has_4P0 A a0 a1 L2 w1 w2 w4 k0 k1 n :=
 cs_args hA (LSpec.callL (show LSpec Try.prog 13 #[vp 0 0, vi a0] [.cells [vi a1, vs 1 0 L2.length L2.length, Value.int .u32 (0 : Int), Value.int .i32 (0 : Int), Value.int .u32 (0 : Int), Value.map none] 64, .cells (rowV E_ii L2) 42] (Value.tuple #[vi w1, Value.bool w2]) [some (.cells [vi a1, vs 1 0 L2.length L2.length, Value.int .u32 (1 : Int), Value.int .i32 (0 : Int), Value.int .u32 (0 : Int), Value.map (some 2)] 64), some (.cells (rowV E_ii L2) 42), some (.ro (mapV w4) true)] from rset_Rset_Has_4_spec a0 a1 L2 N _ h) [k0, k1] n [0, 2] rfl hnd hlt (show 2 ≤ 3 from by decide) (show ∀ j ∈ ([0, 2] : List Nat), j < 3 from by decide) (by rfl) ⟨rfl, ⟨(under_row _ _ _), trivial⟩⟩ (by rfl) ⟨rfl, ⟨(under_row _ _ _), ⟨rfl, trivial⟩⟩⟩ ⟨.inl (by decide), ⟨.inr rfl, ⟨(by decide), trivial⟩⟩⟩ rfl rfl rfl (cons_eq (pair_eq rfl rfl) (cons_eq (pair_eq rfl (renO_row _ _ _)) rfl)) (cons_eq (pair_eq rfl (some_eq rfl)) (cons_eq (pair_eq rfl (some_eq rfl)) rfl)))

noncomputable def law06_RsetRunsV (a0 : Int) (o1 : Nat) (L2 : List R_uii) (n3 n4 : Nat) (a5 : Int) (O0 : Obj) : law06_RsetRunsR → Value
 | .r0 w2 => Value.bool w2
noncomputable def law06_RsetRunsPo (a0 : Int) (o1 : Nat) (L2 : List R_uii) (n3 n4 : Nat) (a5 : Int) (O0 : Obj) : law06_RsetRunsR → List (Option AObj)
 | .r0 w2 => [some (.ro O0)]

def law06_RsetRunsHd : law06_RsetRunsX → Nat
 | .h1m0 v6 => 1
 | .h1m1 v7 => 1
 | .h1m2 v5 v8 => 1
 | .h1m3 v5 v7 v8 v9 v10 => 1
 | .h2m0 v5 v6 v7 v9 v10 v11 v12 => 2
 | .h2m1 v5 v6 v7 v9 v10 v11 v12 v13 v14 v15 => 2
 | .h2m2 v5 v6 v7 v10 v11 v12 v13 => 2
 | .h2m3 v5 v9 v10 v11 v12 v13 v14 => 2
noncomputable def law06_RsetRunsL (a0 : Int) (o1 : Nat) (L2 : List R_uii) (n3 n4 : Nat) (a5 : Int) (O0 : Obj) : law06_RsetRunsX → List (Nat × Value)
 | .h1m0 v6 => [(1, vs 0 o1 n3 n4), (2, vi a5), (7, Value.pointer none), (9, vp 1 0), (11, vq)]
 | .h1m1 v7 => [(1, vs 0 o1 n3 n4), (2, vi a5), (7, vp 1 0), (9, vp 2 0), (11, vq)]
 | .h1m2 v5 v8 => [(1, vs 0 o1 n3 n4), (2, vi a5), (7, vp 1 0), (9, vp 2 0), (11, vi (v5 : Int))]
 | .h1m3 v5 v7 v8 v9 v10 => [(1, vs 0 o1 n3 n4), (2, vi a5), (7, vp 1 0), (9, vp 2 0), (11, vi (v5 : Int))]
 | .h2m0 v5 v6 v7 v9 v10 v11 v12 => [(1, vs 0 o1 n3 n4), (2, vi a5), (7, vp 1 0), (9, vp 2 0), (11, vi (v5 : Int)), (12, vp 3 0), (13, vi (v6 : Int)), (14, vi v7)]
 | .h2m1 v5 v6 v7 v9 v10 v11 v12 v13 v14 v15 => [(1, vs 0 o1 n3 n4), (2, vi a5), (7, vp 1 0), (9, vp 2 0), (11, vi (v5 : Int)), (12, vp 3 0), (13, vi v6), (14, vi v7)]
 | .h2m2 v5 v6 v7 v10 v11 v12 v13 => [(1, vs 0 o1 n3 n4), (2, vi a5), (7, vp 1 0), (9, vp 2 0), (11, vi (v5 : Int)), (12, vp 3 0), (13, vi v6), (14, vi v7)]
 | .h2m3 v5 v9 v10 v11 v12 v13 v14 => [(1, vs 0 o1 n3 n4), (2, vi a5), (7, vp 1 0), (9, vp 2 0), (11, vi (v5 : Int)), (12, vp 3 0), (13, vq), (14, vq)]
noncomputable def law06_RsetRunsH (a0 : Int) (o1 : Nat) (L2 : List R_uii) (n3 n4 : Nat) (a5 : Int) (O0 : Obj) : law06_RsetRunsX → List (Option AObj)
 | .h1m0 v6 => [some (.ro O0), some (.cells [vi v6, vn] 29)]
 | .h1m1 v7 => [some (.ro O0), some (.cells [vi a0, vn, Value.int .u32 (0 : Int), Value.int .i32 (0 : Int), Value.int .u32 (0 : Int), Value.map none] 64), some (.cells [vi v7, vn] 29)]
 | .h1m2 v5 v8 => [some (.ro O0), some (.cells [vi a0, vn, Value.int .u32 (1 : Int), Value.int .i32 (0 : Int), Value.int .u32 (0 : Int), Value.map (some 3)] 64), some (.cells [vi v8, vn] 29), some (.ro (mapV ([] : List R_ii)) true)]
 | .h1m3 v5 v7 v8 v9 v10 => [some (.ro O0), some (.cells [vi a0, vs 3 0 v7.length v7.length, Value.int .u32 (1 : Int), Value.int .i32 (0 : Int), Value.int .u32 (0 : Int), Value.map (some 4)] 64), some (.cells [vi v9, vs 5 0 v10.length v10.length] 29), some (.cells (rowV E_ii v7) 42), some (.ro (mapV v8) true), some (.cells (rowV E_ii v10) 42)]
 | .h2m0 v5 v6 v7 v9 v10 v11 v12 => [some (.ro O0), some (.cells [vi a0, vn, Value.int .u32 (0 : Int), Value.int .i32 (0 : Int), Value.int .u32 (0 : Int), Value.map none] 64), some (.cells [vi v9, vn] 29), some (.cells [Value.int .u8 v10, vi v11, vi v12] 34)]
 | .h2m1 v5 v6 v7 v9 v10 v11 v12 v13 v14 v15 => [some (.ro O0), some (.cells [vi a0, vs 4 0 v9.length v9.length, Value.int .u32 (1 : Int), Value.int .i32 (0 : Int), Value.int .u32 (0 : Int), Value.map (some 5)] 64), some (.cells [vi v11, vs 6 0 v12.length v12.length] 29), some (.cells [Value.int .u8 v13, vi v14, vi v15] 34), some (.cells (rowV E_ii v9) 42), some (.ro (mapV v10) true), some (.cells (rowV E_ii v12) 42)]
 | .h2m2 v5 v6 v7 v10 v11 v12 v13 => [some (.ro O0), some (.cells [vi a0, vn, Value.int .u32 (1 : Int), Value.int .i32 (0 : Int), Value.int .u32 (0 : Int), Value.map (some 4)] 64), some (.cells [vi v10, vn] 29), some (.cells [Value.int .u8 v11, vi v12, vi v13] 34), some (.ro (mapV ([] : List R_ii)) true)]
 | .h2m3 v5 v9 v10 v11 v12 v13 v14 => [some (.ro O0), some (.cells [vi a0, vs 4 0 v9.length v9.length, Value.int .u32 (0 : Int), Value.int .i32 (0 : Int), Value.int .u32 (0 : Int), Value.map none] 64), some (.cells [vi v10, vs 5 0 v11.length v11.length] 29), some (.cells [Value.int .u8 v12, vi v13, vi v14] 34), some (.cells (rowV E_ii v9) 42), some (.cells (rowV E_ii v11) 42)]

noncomputable def law06_RsetRunsC : Nat → Code × List Kont
 | 1 => headOf [1, 1, 1, 1, 0, 1, 3] (bodyC Try.f3) []
 | 2 => atOf [1, 1, 1, 1, 0, 1, 3, 7, 1, 0, 3, 1, 1, 1] (bodyC Try.f3) []
 | _ => (.skip, [])
def law06_RsetRunsIL : Nat → Bool
 | 1 => true
 | 2 => false
 | _ => true
noncomputable def law06_RsetRunsK (i : Nat) : List Kont := match law06_RsetRunsIL i with | true => .rnd i :: (law06_RsetRunsC i).2 | false => (law06_RsetRunsC i).2

noncomputable def law06_RsetRunsM (a0 : Int) (o1 : Nat) (L2 : List R_uii) (n3 n4 : Nat) (a5 : Int) (O0 : Obj) (N : Nat) : Mach := ⟨Try.f3, [.ro O0], law06_RsetRunsX, law06_RsetRunsR, law06_RsetRunsStep a0 L2 n3 n4 a5 N, law06_RsetRunsHd, law06_RsetRunsC, law06_RsetRunsIL, law06_RsetRunsL a0 o1 L2 n3 n4 a5 O0, law06_RsetRunsH a0 o1 L2 n3 n4 a5 O0, law06_RsetRunsV a0 o1 L2 n3 n4 a5 O0, law06_RsetRunsPo a0 o1 L2 n3 n4 a5 O0⟩

theorem law06_RsetRuns_ok1_0 (a0 : Int) (o1 : Nat) (L2 : List R_uii) (n3 n4 : Nat) (a5 : Int) (O0 : Obj) (F0 : RO_uii O0 o1 L2) (v6 : Int) (N : Nat) : (law06_RsetRunsM a0 o1 L2 n3 n4 a5 O0 N).Ok Try.prog ext_Sr (.h1m0 v6 : law06_RsetRunsX) (law06_RsetRunsStep a0 L2 n3 n4 a5 N (.h1m0 v6 : law06_RsetRunsX)) := by
 show (law06_RsetRunsM a0 o1 L2 n3 n4 a5 O0 N).Ok Try.prog ext_Sr (.h1m0 v6 : law06_RsetRunsX) (law06_RsetRuns_h1m0 a0 L2 n3 n4 a5 N v6)
 unfold law06_RsetRuns_h1m0
 by_cases g0 : (0 : Int) < (n3 : Int)
 ·
  exact Mach.ok_fin (M := law06_RsetRunsM a0 o1 L2 n3 n4 a5 O0 N) (cd := 1000000) (cm := 0) (r := (.r0 (true) : law06_RsetRunsR)) (fu := 4000) (orc := (orcw [(0, true)] [] [] [] [])) (live := [0]) (u := vT) (bl := [some (.ro O0)]) (ob := [((decide ((0 : Int) < (n3 : Int))), true)]) (fun gv => by kernel_rfl) (oY obs_nil) rfl (by decide) (by rfl) rr ⟨rfl, trivial⟩
 ·
  exact Mach.ok_fin (M := law06_RsetRunsM a0 o1 L2 n3 n4 a5 O0 N) (cd := 1000000) (cm := 0) (r := (.r0 (true) : law06_RsetRunsR)) (fu := 4000) (orc := (orcw [(0, false)] [] [] [] [])) (live := [0]) (u := vT) (bl := [some (.ro O0)]) (ob := [((decide ((0 : Int) < (n3 : Int))), false)]) (fun gv => by kernel_rfl) (oN obs_nil) rfl (by decide) (by rfl) rr ⟨rfl, trivial⟩

theorem law06_RsetRuns_ok1_1 (a0 : Int) (o1 : Nat) (L2 : List R_uii) (n3 n4 : Nat) (a5 : Int) (O0 : Obj) (F0 : RO_uii O0 o1 L2) (v7 : Int) (N : Nat) : (law06_RsetRunsM a0 o1 L2 n3 n4 a5 O0 N).Ok Try.prog ext_Sr (.h1m1 v7 : law06_RsetRunsX) (law06_RsetRunsStep a0 L2 n3 n4 a5 N (.h1m1 v7 : law06_RsetRunsX)) := by
 show (law06_RsetRunsM a0 o1 L2 n3 n4 a5 O0 N).Ok Try.prog ext_Sr (.h1m1 v7 : law06_RsetRunsX) (law06_RsetRuns_h1m1 a0 L2 n3 n4 a5 N v7)
 unfold law06_RsetRuns_h1m1
 refine Mach.ok_ite (fun g0 => ?_) (fun g0 => ?_)
 ·
  refine Mach.ok_ite (fun g1 => ?_) (fun g1 => ?_)
  ·
   refine Mach.ok_ite (fun g2 => ?_) (fun g2 => ?_)
   ·
    refine Mach.ok_ite (fun g3 => ?_) (fun g3 => ?_)
    ·
     exact Mach.ok_cut (bK := law06_RsetRunsC 2) (M := law06_RsetRunsM a0 o1 L2 n3 n4 a5 O0 N) (cd := 5) (cm := 2) (y := (.h2m0 (0) (0) ((0 : Int)) (v7) ((L2.getD 0 R_uii.z).a0) ((L2.getD 0 R_uii.z).a1) ((L2.getD 0 R_uii.z).a2) : law06_RsetRunsX)) (fu := 4000) (orc := (orcw [(0, true), (3, true), (5, true)] [] [(0, 0)] [(0, [.k .u8 (L2.getD 0 R_uii.z).a0, .i (L2.getD 0 R_uii.z).a1, .i (L2.getD 0 R_uii.z).a2])] [])) (live := [0, 1, 2, 3]) (tv := fun _ => [some (vs 0 o1 n3 n4), some (vi a5), some (vp 1 0), some (vp 2 0), some (vq), some (vp 3 0), some (vq), some (vq)]) (bl := [some (.ro O0), some (.cells [vi a0, vn, Value.int .u32 (0 : Int), Value.int .i32 (0 : Int), Value.int .u32 (0 : Int), Value.map none] 64), some (.cells [vi v7, vn] 29), some (.cells [Value.int .u8 (L2.getD 0 R_uii.z).a0, vi (L2.getD 0 R_uii.z).a1, vi (L2.getD 0 R_uii.z).a2] 34)]) (ob := [((decide (a0 > (0 : Int))), true), (((Int.tmod (L2.getD 0 R_uii.z).a0 (7 : Int)) == (5 : Int)), true), (sameR (roRow O0 (o1 + (0 * 3)) 3) [.k .u8 (L2.getD 0 R_uii.z).a0, .i (L2.getD 0 R_uii.z).a1, .i (L2.getD 0 R_uii.z).a2], true), (Nat.blt 0 n3, true), ((0 : Int) == Int.ofNat 0, true), ((decide ((0 : Int) < (n3 : Int))), true)]) rfl rfl (show ∀ j ∈ rids (law06_RsetRunsC 2).2, j ∈ rids (law06_RsetRunsK 1) from by decide +kernel) (fun gv => by kernel_rfl) (oY <| oT <| obs_cons ((show (o1 + 0 * 3 + 0) = (o1 + (0 * 3)) from by omega) ▸ F0 0 (by omega) 0 3 (show 0 + 3 ≤ 3 from by decide)) <| oB <| oI <| oY obs_nil) rfl (by decide) (by rfl) (fun _ => ⟨rr, ⟨rr, ⟨rr, ⟨rr, ⟨⟨Eq.trans (show (vi ((0 : Nat) : Int) : Value) = vq from (congrArg (Value.int .i64) (by first | rfl | omega))) (by rfl), by rfl⟩, ⟨rr, ⟨⟨Eq.trans (show (vi ((0 : Nat) : Int) : Value) = vq from (congrArg (Value.int .i64) (by first | rfl | omega))) (by rfl), by rfl⟩, ⟨rr, trivial⟩⟩⟩⟩⟩⟩⟩⟩) ⟨rfl, ⟨⟨rfl, ⟨[], by rfl⟩, by rfl⟩, ⟨⟨rfl, ⟨[], by rfl⟩, by rfl⟩, ⟨⟨rfl, ⟨[], by rfl⟩, by rfl⟩, trivial⟩⟩⟩⟩
    ·
     exact Mach.ok_none
   ·
    refine Mach.ok_ite (fun g3 => ?_) (fun g3 => ?_)
    ·
     refine Mach.ok_bind (fun z4 c4 => ?_)
     cases z4 with
     | r0 =>
      refine Mach.ok_bind (fun z5 c5 => ?_)
      cases z5 with
      | r0 =>
       refine Mach.ok_ite (fun g6 => ?_) (fun g6 => ?_)
       ·
        exact Mach.ok_cut (bK := law06_RsetRunsC 2) (M := law06_RsetRunsM a0 o1 L2 n3 n4 a5 O0 N) (cd := 5) (cm := 2) (y := (.h2m0 (0) (0) ((0 : Int)) (v7) ((L2.getD 0 R_uii.z).a0) ((L2.getD 0 R_uii.z).a1) ((L2.getD 0 R_uii.z).a2) : law06_RsetRunsX)) (fu := 4000) (orc := (orcw [(0, true), (3, false), (4, true), (7, true)] [] [(0, 0)] [(0, [.k .u8 (L2.getD 0 R_uii.z).a0, .i (L2.getD 0 R_uii.z).a1, .i (L2.getD 0 R_uii.z).a2])] [(2, (rset_Rset_ForkT0 (a0)   1 4)), (3, (rset_Rset_AddT0 ((7 : Int)) ((7 : Int)) (a0)   1 5))])) (live := [0, 4, 2, 3]) (tv := fun _ => [some (vs 0 o1 n3 n4), some (vi a5), some (vp 4 0), some (vp 2 0), some (vq), some (vp 3 0), some (vq), some (vq)]) (bl := [some (.ro O0), some (.cells [vi a0, vn, Value.int .u32 (0 : Int), Value.int .i32 (0 : Int), Value.int .u32 (0 : Int), Value.map none] 64), some (.cells [vi v7, vn] 29), some (.cells [Value.int .u8 (L2.getD 0 R_uii.z).a0, vi (L2.getD 0 R_uii.z).a1, vi (L2.getD 0 R_uii.z).a2] 34)]) (ob := [((decide (a0 > (0 : Int))), true), (dP (rset_Rset_AddP0 #[vp 1 0, vi (7 : Int), vi (7 : Int)] ((7 : Int)) ((7 : Int)) (a0)   1 5), true), (dS [vi a0, vn, Value.int .u32 (0 : Int), Value.int .i32 (0 : Int), Value.int .u32 (0 : Int), Value.map none], true), (dP (rset_Rset_ForkP0 #[vp 1 0] (a0)   1 4), true), (dS [vi a0, vn, Value.int .u32 (0 : Int), Value.int .i32 (0 : Int), Value.int .u32 (0 : Int), Value.map none], true), (((Int.tmod (L2.getD 0 R_uii.z).a0 (7 : Int)) == (6 : Int)), true), (((Int.tmod (L2.getD 0 R_uii.z).a0 (7 : Int)) == (5 : Int)), false), (sameR (roRow O0 (o1 + (0 * 3)) 3) [.k .u8 (L2.getD 0 R_uii.z).a0, .i (L2.getD 0 R_uii.z).a1, .i (L2.getD 0 R_uii.z).a2], true), (Nat.blt 0 n3, true), ((0 : Int) == Int.ofNat 0, true), ((decide ((0 : Int) < (n3 : Int))), true)]) rfl rfl (show ∀ j ∈ rids (law06_RsetRunsC 2).2, j ∈ rids (law06_RsetRunsK 1) from by decide +kernel) (fun gv => by kernel_rfl) (oY <| obs_cons (dP_of (rset_Rset_AddC0 #[vp 1 0, vi (7 : Int), vi (7 : Int)] ((7 : Int)) ((7 : Int)) (a0)   N c5 1 5 rfl (by decide) (by decide))) <| obs_cons (dP_of (cons_eq rfl (cons_eq rfl (cons_eq rfl (cons_eq rfl (cons_eq rfl (cons_eq rfl rfl))))))) <| obs_cons (dP_of (rset_Rset_ForkC0 #[vp 1 0] (a0)   N c4 1 4 rfl (by decide) (by decide))) <| obs_cons (dP_of (cons_eq rfl (cons_eq rfl (cons_eq rfl (cons_eq rfl (cons_eq rfl (cons_eq rfl rfl))))))) <| oT <| oF <| obs_cons ((show (o1 + 0 * 3 + 0) = (o1 + (0 * 3)) from by omega) ▸ F0 0 (by omega) 0 3 (show 0 + 3 ≤ 3 from by decide)) <| oB <| oI <| oY obs_nil) rfl (by decide) (by rfl) (fun _ => ⟨rr, ⟨rr, ⟨rr, ⟨rr, ⟨⟨Eq.trans (show (vi ((0 : Nat) : Int) : Value) = vq from (congrArg (Value.int .i64) (by first | rfl | omega))) (by rfl), by rfl⟩, ⟨rr, ⟨⟨Eq.trans (show (vi ((0 : Nat) : Int) : Value) = vq from (congrArg (Value.int .i64) (by first | rfl | omega))) (by rfl), by rfl⟩, ⟨rr, trivial⟩⟩⟩⟩⟩⟩⟩⟩) ⟨rfl, ⟨⟨rfl, ⟨[], by rfl⟩, by rfl⟩, ⟨⟨rfl, ⟨[], by rfl⟩, by rfl⟩, ⟨⟨rfl, ⟨[], by rfl⟩, by rfl⟩, trivial⟩⟩⟩⟩
       ·
        exact Mach.ok_none
      | r1 =>
       refine Mach.ok_ite (fun g6 => ?_) (fun g6 => ?_)
       ·
        exact Mach.ok_cut (bK := law06_RsetRunsC 2) (M := law06_RsetRunsM a0 o1 L2 n3 n4 a5 O0 N) (cd := 5) (cm := 2) (y := (.h2m0 (0) (0) ((0 : Int)) (v7) ((L2.getD 0 R_uii.z).a0) ((L2.getD 0 R_uii.z).a1) ((L2.getD 0 R_uii.z).a2) : law06_RsetRunsX)) (fu := 4000) (orc := (orcw [(0, true), (3, false), (4, true), (7, true)] [] [(0, 0)] [(0, [.k .u8 (L2.getD 0 R_uii.z).a0, .i (L2.getD 0 R_uii.z).a1, .i (L2.getD 0 R_uii.z).a2])] [(2, (rset_Rset_ForkT0 (a0)   1 4)), (3, (rset_Rset_AddT1 ((7 : Int)) ((7 : Int)) (a0)   1 5))])) (live := [0, 4, 2, 3]) (tv := fun _ => [some (vs 0 o1 n3 n4), some (vi a5), some (vp 4 0), some (vp 2 0), some (vq), some (vp 3 0), some (vq), some (vq)]) (bl := [some (.ro O0), some (.cells [vi a0, vn, Value.int .u32 (0 : Int), Value.int .i32 (0 : Int), Value.int .u32 (0 : Int), Value.map none] 64), some (.cells [vi v7, vn] 29), some (.cells [Value.int .u8 (L2.getD 0 R_uii.z).a0, vi (L2.getD 0 R_uii.z).a1, vi (L2.getD 0 R_uii.z).a2] 34)]) (ob := [((decide (a0 > (0 : Int))), true), (dP (rset_Rset_AddP1 #[vp 1 0, vi (7 : Int), vi (7 : Int)] ((7 : Int)) ((7 : Int)) (a0)   1 5), true), (dS [vi a0, vn, Value.int .u32 (0 : Int), Value.int .i32 (0 : Int), Value.int .u32 (0 : Int), Value.map none], true), (dP (rset_Rset_ForkP0 #[vp 1 0] (a0)   1 4), true), (dS [vi a0, vn, Value.int .u32 (0 : Int), Value.int .i32 (0 : Int), Value.int .u32 (0 : Int), Value.map none], true), (((Int.tmod (L2.getD 0 R_uii.z).a0 (7 : Int)) == (6 : Int)), true), (((Int.tmod (L2.getD 0 R_uii.z).a0 (7 : Int)) == (5 : Int)), false), (sameR (roRow O0 (o1 + (0 * 3)) 3) [.k .u8 (L2.getD 0 R_uii.z).a0, .i (L2.getD 0 R_uii.z).a1, .i (L2.getD 0 R_uii.z).a2], true), (Nat.blt 0 n3, true), ((0 : Int) == Int.ofNat 0, true), ((decide ((0 : Int) < (n3 : Int))), true)]) rfl rfl (show ∀ j ∈ rids (law06_RsetRunsC 2).2, j ∈ rids (law06_RsetRunsK 1) from by decide +kernel) (fun gv => by kernel_rfl) (oY <| obs_cons (dP_of (rset_Rset_AddC1 #[vp 1 0, vi (7 : Int), vi (7 : Int)] ((7 : Int)) ((7 : Int)) (a0)   N c5 1 5 rfl (by decide) (by decide))) <| obs_cons (dP_of (cons_eq rfl (cons_eq rfl (cons_eq rfl (cons_eq rfl (cons_eq rfl (cons_eq rfl rfl))))))) <| obs_cons (dP_of (rset_Rset_ForkC0 #[vp 1 0] (a0)   N c4 1 4 rfl (by decide) (by decide))) <| obs_cons (dP_of (cons_eq rfl (cons_eq rfl (cons_eq rfl (cons_eq rfl (cons_eq rfl (cons_eq rfl rfl))))))) <| oT <| oF <| obs_cons ((show (o1 + 0 * 3 + 0) = (o1 + (0 * 3)) from by omega) ▸ F0 0 (by omega) 0 3 (show 0 + 3 ≤ 3 from by decide)) <| oB <| oI <| oY obs_nil) rfl (by decide) (by rfl) (fun _ => ⟨rr, ⟨rr, ⟨rr, ⟨rr, ⟨⟨Eq.trans (show (vi ((0 : Nat) : Int) : Value) = vq from (congrArg (Value.int .i64) (by first | rfl | omega))) (by rfl), by rfl⟩, ⟨rr, ⟨⟨Eq.trans (show (vi ((0 : Nat) : Int) : Value) = vq from (congrArg (Value.int .i64) (by first | rfl | omega))) (by rfl), by rfl⟩, ⟨rr, trivial⟩⟩⟩⟩⟩⟩⟩⟩) ⟨rfl, ⟨⟨rfl, ⟨[], by rfl⟩, by rfl⟩, ⟨⟨rfl, ⟨[], by rfl⟩, by rfl⟩, ⟨⟨rfl, ⟨[], by rfl⟩, by rfl⟩, trivial⟩⟩⟩⟩
       ·
        exact Mach.ok_none
    ·
     refine Mach.ok_bind (fun z4 c4 => ?_)
     cases z4 with
     | r0 =>
      refine Mach.ok_bind (fun z5 c5 => ?_)
      cases z5 with
      | r0 y5_0 =>
       exact Mach.ok_cut (bK := law06_RsetRunsC 2) (M := law06_RsetRunsM a0 o1 L2 n3 n4 a5 O0 N) (cd := 5) (cm := 2) (y := (.h2m0 (0) (1) (y5_0) (v7) ((L2.getD 0 R_uii.z).a0) ((L2.getD 0 R_uii.z).a1) ((L2.getD 0 R_uii.z).a2) : law06_RsetRunsX)) (fu := 4000) (orc := (orcw [(0, true), (3, false), (4, false)] [] [(0, 0)] [(0, [.k .u8 (L2.getD 0 R_uii.z).a0, .i (L2.getD 0 R_uii.z).a1, .i (L2.getD 0 R_uii.z).a2])] [(2, (rset_Rset_AddT0 ((L2.getD 0 R_uii.z).a1) ((L2.getD 0 R_uii.z).a2) (a0)   1 4)), (3, (ref06_AddT0 (v7) ((L2.getD 0 R_uii.z).a1) ((L2.getD 0 R_uii.z).a2)  y5_0  4))])) (live := [0, 1, 2, 3]) (tv := fun _ => [some (vs 0 o1 n3 n4), some (vi a5), some (vp 1 0), some (vp 2 0), some (vq), some (vp 3 0), some (vi (1 : Int)), some (vi y5_0)]) (bl := [some (.ro O0), some (.cells [vi a0, vn, Value.int .u32 (0 : Int), Value.int .i32 (0 : Int), Value.int .u32 (0 : Int), Value.map none] 64), some (.cells [vi v7, vn] 29), some (.cells [Value.int .u8 (L2.getD 0 R_uii.z).a0, vi (L2.getD 0 R_uii.z).a1, vi (L2.getD 0 R_uii.z).a2] 34)]) (ob := [(dP (ref06_AddP0 #[Value.agg #[vi v7, vn], vi (L2.getD 0 R_uii.z).a1, vi (L2.getD 0 R_uii.z).a2] (v7) ((L2.getD 0 R_uii.z).a1) ((L2.getD 0 R_uii.z).a2)  y5_0  4), true), (dP (rset_Rset_AddP0 #[vp 1 0, vi (L2.getD 0 R_uii.z).a1, vi (L2.getD 0 R_uii.z).a2] ((L2.getD 0 R_uii.z).a1) ((L2.getD 0 R_uii.z).a2) (a0)   1 4), true), (dS [vi a0, vn, Value.int .u32 (0 : Int), Value.int .i32 (0 : Int), Value.int .u32 (0 : Int), Value.map none], true), (((Int.tmod (L2.getD 0 R_uii.z).a0 (7 : Int)) == (6 : Int)), false), (((Int.tmod (L2.getD 0 R_uii.z).a0 (7 : Int)) == (5 : Int)), false), (sameR (roRow O0 (o1 + (0 * 3)) 3) [.k .u8 (L2.getD 0 R_uii.z).a0, .i (L2.getD 0 R_uii.z).a1, .i (L2.getD 0 R_uii.z).a2], true), (Nat.blt 0 n3, true), ((0 : Int) == Int.ofNat 0, true), ((decide ((0 : Int) < (n3 : Int))), true)]) rfl rfl (show ∀ j ∈ rids (law06_RsetRunsC 2).2, j ∈ rids (law06_RsetRunsK 1) from by decide +kernel) (fun gv => by kernel_rfl) (obs_cons (dP_of (ref06_AddC0 #[Value.agg #[vi v7, vn], vi (L2.getD 0 R_uii.z).a1, vi (L2.getD 0 R_uii.z).a2] (v7) ((L2.getD 0 R_uii.z).a1) ((L2.getD 0 R_uii.z).a2)  y5_0 N c5  4 rfl (by decide) (by decide))) <| obs_cons (dP_of (rset_Rset_AddC0 #[vp 1 0, vi (L2.getD 0 R_uii.z).a1, vi (L2.getD 0 R_uii.z).a2] ((L2.getD 0 R_uii.z).a1) ((L2.getD 0 R_uii.z).a2) (a0)   N c4 1 4 rfl (by decide) (by decide))) <| obs_cons (dP_of (cons_eq rfl (cons_eq rfl (cons_eq rfl (cons_eq rfl (cons_eq rfl (cons_eq rfl rfl))))))) <| oF <| oF <| obs_cons ((show (o1 + 0 * 3 + 0) = (o1 + (0 * 3)) from by omega) ▸ F0 0 (by omega) 0 3 (show 0 + 3 ≤ 3 from by decide)) <| oB <| oI <| oY obs_nil) rfl (by decide) (by rfl) (fun _ => ⟨rr, ⟨rr, ⟨rr, ⟨rr, ⟨⟨Eq.trans (show (vi ((0 : Nat) : Int) : Value) = vq from (congrArg (Value.int .i64) (by first | rfl | omega))) (by rfl), by rfl⟩, ⟨rr, ⟨⟨Eq.trans (show (vi ((1 : Nat) : Int) : Value) = vi (1 : Int) from (congrArg (Value.int .i64) (by first | rfl | omega))) (by rfl), by rfl⟩, ⟨rr, trivial⟩⟩⟩⟩⟩⟩⟩⟩) ⟨rfl, ⟨⟨rfl, ⟨[], by rfl⟩, by rfl⟩, ⟨⟨rfl, ⟨[], by rfl⟩, by rfl⟩, ⟨⟨rfl, ⟨[], by rfl⟩, by rfl⟩, trivial⟩⟩⟩⟩
      | r1 =>
       exact Mach.ok_none
     | r1 =>
      refine Mach.ok_bind (fun z5 c5 => ?_)
      cases z5 with
      | r0 _ =>
       exact Mach.ok_none
      | r1 =>
       exact Mach.ok_cut (bK := law06_RsetRunsC 2) (M := law06_RsetRunsM a0 o1 L2 n3 n4 a5 O0 N) (cd := 5) (cm := 2) (y := (.h2m1 (0) ((0 : Int)) ((0 : Int)) (([(⟨(L2.getD 0 R_uii.z).a1, (L2.getD 0 R_uii.z).a2⟩ : R_ii)] : List R_ii)) ((mPut ([] : List R_ii) (L2.getD 0 R_uii.z).a1 (0 : Int))) (v7) (([(⟨(L2.getD 0 R_uii.z).a1, (L2.getD 0 R_uii.z).a2⟩ : R_ii)] : List R_ii)) ((L2.getD 0 R_uii.z).a0) ((L2.getD 0 R_uii.z).a1) ((L2.getD 0 R_uii.z).a2) : law06_RsetRunsX)) (fu := 4000) (orc := (orcw [(0, true), (3, false), (4, false)] [] [(0, 0)] [(0, [.k .u8 (L2.getD 0 R_uii.z).a0, .i (L2.getD 0 R_uii.z).a1, .i (L2.getD 0 R_uii.z).a2])] [(2, (rset_Rset_AddT1 ((L2.getD 0 R_uii.z).a1) ((L2.getD 0 R_uii.z).a2) (a0)   1 4)), (3, (ref06_AddT1 (v7) ((L2.getD 0 R_uii.z).a1) ((L2.getD 0 R_uii.z).a2)    6))])) (live := [0, 1, 2, 3, 4, 5, 6]) (tv := fun _ => [some (vs 0 o1 n3 n4), some (vi a5), some (vp 1 0), some (vp 2 0), some (vq), some (vp 3 0), some (vq), some (vq)]) (bl := [some (.ro O0), some (.cells [vi a0, vs 4 0 1 1, Value.int .u32 (1 : Int), Value.int .i32 (0 : Int), Value.int .u32 (0 : Int), Value.map (some 5)] 64), some (.cells [vi v7, vs 6 0 1 1] 29), some (.cells [Value.int .u8 (L2.getD 0 R_uii.z).a0, vi (L2.getD 0 R_uii.z).a1, vi (L2.getD 0 R_uii.z).a2] 34), some (.cells (rowV E_ii ([(⟨(L2.getD 0 R_uii.z).a1, (L2.getD 0 R_uii.z).a2⟩ : R_ii)] : List R_ii)) 42), some (.ro (mapV (mPut ([] : List R_ii) (L2.getD 0 R_uii.z).a1 (0 : Int))) true), some (.cells (rowV E_ii ([(⟨(L2.getD 0 R_uii.z).a1, (L2.getD 0 R_uii.z).a2⟩ : R_ii)] : List R_ii)) 42)]) (ob := [(dP (ref06_AddP1 #[Value.agg #[vi v7, vn], vi (L2.getD 0 R_uii.z).a1, vi (L2.getD 0 R_uii.z).a2] (v7) ((L2.getD 0 R_uii.z).a1) ((L2.getD 0 R_uii.z).a2)    6), true), (dP (rset_Rset_AddP1 #[vp 1 0, vi (L2.getD 0 R_uii.z).a1, vi (L2.getD 0 R_uii.z).a2] ((L2.getD 0 R_uii.z).a1) ((L2.getD 0 R_uii.z).a2) (a0)   1 4), true), (dS [vi a0, vn, Value.int .u32 (0 : Int), Value.int .i32 (0 : Int), Value.int .u32 (0 : Int), Value.map none], true), (((Int.tmod (L2.getD 0 R_uii.z).a0 (7 : Int)) == (6 : Int)), false), (((Int.tmod (L2.getD 0 R_uii.z).a0 (7 : Int)) == (5 : Int)), false), (sameR (roRow O0 (o1 + (0 * 3)) 3) [.k .u8 (L2.getD 0 R_uii.z).a0, .i (L2.getD 0 R_uii.z).a1, .i (L2.getD 0 R_uii.z).a2], true), (Nat.blt 0 n3, true), ((0 : Int) == Int.ofNat 0, true), ((decide ((0 : Int) < (n3 : Int))), true)]) rfl rfl (show ∀ j ∈ rids (law06_RsetRunsC 2).2, j ∈ rids (law06_RsetRunsK 1) from by decide +kernel) (fun gv => by kernel_rfl) (obs_cons (dP_of (ref06_AddC1 #[Value.agg #[vi v7, vn], vi (L2.getD 0 R_uii.z).a1, vi (L2.getD 0 R_uii.z).a2] (v7) ((L2.getD 0 R_uii.z).a1) ((L2.getD 0 R_uii.z).a2)   N c5  6 rfl (by decide) (by decide))) <| obs_cons (dP_of (rset_Rset_AddC1 #[vp 1 0, vi (L2.getD 0 R_uii.z).a1, vi (L2.getD 0 R_uii.z).a2] ((L2.getD 0 R_uii.z).a1) ((L2.getD 0 R_uii.z).a2) (a0)   N c4 1 4 rfl (by decide) (by decide))) <| obs_cons (dP_of (cons_eq rfl (cons_eq rfl (cons_eq rfl (cons_eq rfl (cons_eq rfl (cons_eq rfl rfl))))))) <| oF <| oF <| obs_cons ((show (o1 + 0 * 3 + 0) = (o1 + (0 * 3)) from by omega) ▸ F0 0 (by omega) 0 3 (show 0 + 3 ≤ 3 from by decide)) <| oB <| oI <| oY obs_nil) rfl (by decide) (by rfl) (fun _ => ⟨rr, ⟨rr, ⟨rr, ⟨rr, ⟨⟨Eq.trans (show (vi ((0 : Nat) : Int) : Value) = vq from (congrArg (Value.int .i64) (by first | rfl | omega))) (by rfl), by rfl⟩, ⟨rr, ⟨rr, ⟨rr, trivial⟩⟩⟩⟩⟩⟩⟩⟩) ⟨rfl, ⟨⟨rfl, ⟨[], (show ([vi a0, vs 4 0 1 1, Value.int .u32 (1 : Int), Value.int .i32 (0 : Int), Value.int .u32 (0 : Int), Value.map (some 5)] : List Value) = _ from (cons_eq rfl (cons_eq (slice_eq rfl eqA eqA) (cons_eq rfl (cons_eq rfl (cons_eq rfl (cons_eq rfl rfl)))))).symm)⟩, by rfl⟩, ⟨⟨rfl, ⟨[], (show ([vi v7, vs 6 0 1 1] : List Value) = _ from (cons_eq rfl (cons_eq (slice_eq rfl eqA eqA) rfl)).symm)⟩, by rfl⟩, ⟨⟨rfl, ⟨[], by rfl⟩, by rfl⟩, ⟨(same_row (E := E_ii) (α := R_ii) _ ([(⟨(L2.getD 0 R_uii.z).a1, (L2.getD 0 R_uii.z).a2⟩ : R_ii)] : List R_ii) _), ⟨(show mapV (mPut ([] : List R_ii) (L2.getD 0 R_uii.z).a1 (0 : Int)) = mapV (mPut ([] : List R_ii) (L2.getD 0 R_uii.z).a1 (0 : Int)) from rfl), ⟨(same_row (E := E_ii) (α := R_ii) _ ([(⟨(L2.getD 0 R_uii.z).a1, (L2.getD 0 R_uii.z).a2⟩ : R_ii)] : List R_ii) _), trivial⟩⟩⟩⟩⟩⟩⟩
  ·
   exact Mach.ok_none
 ·
  exact Mach.ok_fin (M := law06_RsetRunsM a0 o1 L2 n3 n4 a5 O0 N) (cd := 1000000) (cm := 0) (r := (.r0 (true) : law06_RsetRunsR)) (fu := 4000) (orc := (orcw [(0, false)] [] [] [] [])) (live := [0]) (u := vT) (bl := [some (.ro O0)]) (ob := [((decide ((0 : Int) < (n3 : Int))), false)]) (fun gv => by kernel_rfl) (oN obs_nil) rfl (by decide) (by rfl) rr ⟨rfl, trivial⟩

theorem law06_RsetRuns_ok1_2 (a0 : Int) (o1 : Nat) (L2 : List R_uii) (n3 n4 : Nat) (a5 : Int) (O0 : Obj) (F0 : RO_uii O0 o1 L2) (v5 : Nat) (v8 : Int) (N : Nat) : (law06_RsetRunsM a0 o1 L2 n3 n4 a5 O0 N).Ok Try.prog ext_Sr (.h1m2 v5 v8 : law06_RsetRunsX) (law06_RsetRunsStep a0 L2 n3 n4 a5 N (.h1m2 v5 v8 : law06_RsetRunsX)) := by
 show (law06_RsetRunsM a0 o1 L2 n3 n4 a5 O0 N).Ok Try.prog ext_Sr (.h1m2 v5 v8 : law06_RsetRunsX) (law06_RsetRuns_h1m2 a0 L2 n3 n4 a5 N v5 v8)
 unfold law06_RsetRuns_h1m2
 refine Mach.ok_ite (fun g0 => ?_) (fun g0 => ?_)
 ·
  refine Mach.ok_ite (fun g1 => ?_) (fun g1 => ?_)
  ·
   refine Mach.ok_ite (fun g2 => ?_) (fun g2 => ?_)
   ·
    refine Mach.ok_ite (fun g3 => ?_) (fun g3 => ?_)
    ·
     refine Mach.ok_ite (fun g4 => ?_) (fun g4 => ?_)
     ·
      exact Mach.ok_cut (bK := law06_RsetRunsC 2) (M := law06_RsetRunsM a0 o1 L2 n3 n4 a5 O0 N) (cd := 5) (cm := 2) (y := (.h2m2 (v5) ((0 : Int)) ((0 : Int)) (v8) ((L2.getD v5 R_uii.z).a0) ((L2.getD v5 R_uii.z).a1) ((L2.getD v5 R_uii.z).a2) : law06_RsetRunsX)) (fu := 4000) (orc := (orcw [(0, true), (1, true), (3, true), (5, true)] [] [(0, v5)] [(0, [.k .u8 (L2.getD v5 R_uii.z).a0, .i (L2.getD v5 R_uii.z).a1, .i (L2.getD v5 R_uii.z).a2])] [])) (live := [0, 1, 2, 4, 3]) (tv := fun _ => [some (vs 0 o1 n3 n4), some (vi a5), some (vp 1 0), some (vp 2 0), some (vi (v5 : Int)), some (vp 4 0), some (vq), some (vq)]) (bl := [some (.ro O0), some (.cells [vi a0, vn, Value.int .u32 (1 : Int), Value.int .i32 (0 : Int), Value.int .u32 (0 : Int), Value.map (some 3)] 64), some (.cells [vi v8, vn] 29), some (.cells [Value.int .u8 (L2.getD v5 R_uii.z).a0, vi (L2.getD v5 R_uii.z).a1, vi (L2.getD v5 R_uii.z).a2] 34), some (.ro (mapV ([] : List R_ii)) true)]) (ob := [((decide (a0 > (0 : Int))), true), (((Int.tmod (L2.getD v5 R_uii.z).a0 (7 : Int)) == (5 : Int)), true), (sameR (roRow O0 (o1 + (v5 * 3)) 3) [.k .u8 (L2.getD v5 R_uii.z).a0, .i (L2.getD v5 R_uii.z).a1, .i (L2.getD v5 R_uii.z).a2], true), (Nat.blt v5 n3, true), ((v5 : Int) == Int.ofNat v5, true), ((decide ((v5 : Int) < (80 : Int))), true), ((decide ((v5 : Int) < (n3 : Int))), true)]) rfl rfl (show ∀ j ∈ rids (law06_RsetRunsC 2).2, j ∈ rids (law06_RsetRunsK 1) from by decide +kernel) (fun gv => by kernel_rfl) (oY <| oT <| obs_cons ((show (o1 + v5 * 3 + 0) = (o1 + (v5 * 3)) from by omega) ▸ F0 v5 (by omega) 0 3 (show 0 + 3 ≤ 3 from by decide)) <| oB <| oI <| oY <| oY obs_nil) rfl (by decide) (by rfl) (fun _ => ⟨rr, ⟨rr, ⟨rr, ⟨rr, ⟨rr, ⟨rr, ⟨rr, ⟨rr, trivial⟩⟩⟩⟩⟩⟩⟩⟩) ⟨rfl, ⟨⟨rfl, ⟨[], by rfl⟩, by rfl⟩, ⟨⟨rfl, ⟨[], by rfl⟩, by rfl⟩, ⟨⟨rfl, ⟨[], by rfl⟩, by rfl⟩, ⟨(show mapV ([] : List R_ii) = mapV ([] : List R_ii) from rfl), trivial⟩⟩⟩⟩⟩
     ·
      exact Mach.ok_none
    ·
     refine Mach.ok_ite (fun g4 => ?_) (fun g4 => ?_)
     ·
      refine Mach.ok_bind (fun z5 c5 => ?_)
      cases z5 with
      | r0 =>
       refine Mach.ok_bind (fun z6 c6 => ?_)
       cases z6 with
       | r0 y6_0 =>
        refine Mach.ok_ite (fun g7 => ?_) (fun g7 => ?_)
        ·
         exact Mach.ok_cut (bK := law06_RsetRunsC 2) (M := law06_RsetRunsM a0 o1 L2 n3 n4 a5 O0 N) (cd := 5) (cm := 2) (y := (.h2m0 (v5) (0) ((0 : Int)) (v8) ((L2.getD v5 R_uii.z).a0) ((L2.getD v5 R_uii.z).a1) ((L2.getD v5 R_uii.z).a2) : law06_RsetRunsX)) (fu := 4000) (orc := (orcw [(0, true), (1, true), (3, false), (4, true), (7, true)] [] [(0, v5)] [(0, [.k .u8 (L2.getD v5 R_uii.z).a0, .i (L2.getD v5 R_uii.z).a1, .i (L2.getD v5 R_uii.z).a2])] [(2, (rset_Rset_Fork_2T0 (a0) (([] : List R_ii))   1 3 5)), (3, (rset_Rset_Add_2T0 ((7 : Int)) ((7 : Int)) (a0) (([] : List R_ii))  y6_0 1 3 6))])) (live := [0, 5, 2, 4]) (tv := fun _ => [some (vs 0 o1 n3 n4), some (vi a5), some (vp 5 0), some (vp 2 0), some (vi (v5 : Int)), some (vp 4 0), some (vq), some (vq)]) (bl := [some (.ro O0), some (.cells [vi a0, vn, Value.int .u32 (0 : Int), Value.int .i32 (0 : Int), Value.int .u32 (0 : Int), Value.map none] 64), some (.cells [vi v8, vn] 29), some (.cells [Value.int .u8 (L2.getD v5 R_uii.z).a0, vi (L2.getD v5 R_uii.z).a1, vi (L2.getD v5 R_uii.z).a2] 34)]) (ob := [((decide (a0 > (0 : Int))), true), (dP (rset_Rset_Add_2P0 #[vp 1 0, vi (7 : Int), vi (7 : Int)] ((7 : Int)) ((7 : Int)) (a0) (([] : List R_ii))  y6_0 1 3 6), true), (dS [vi a0, vn, Value.int .u32 (1 : Int), Value.int .i32 (0 : Int), Value.int .u32 (0 : Int), Value.map (some 3)], true), (dS (mapV ([] : List R_ii)), true), (dP (rset_Rset_Fork_2P0 #[vp 1 0] (a0) (([] : List R_ii))   1 3 5), true), (dS [vi a0, vn, Value.int .u32 (1 : Int), Value.int .i32 (0 : Int), Value.int .u32 (0 : Int), Value.map (some 3)], true), (dS (mapV ([] : List R_ii)), true), (((Int.tmod (L2.getD v5 R_uii.z).a0 (7 : Int)) == (6 : Int)), true), (((Int.tmod (L2.getD v5 R_uii.z).a0 (7 : Int)) == (5 : Int)), false), (sameR (roRow O0 (o1 + (v5 * 3)) 3) [.k .u8 (L2.getD v5 R_uii.z).a0, .i (L2.getD v5 R_uii.z).a1, .i (L2.getD v5 R_uii.z).a2], true), (Nat.blt v5 n3, true), ((v5 : Int) == Int.ofNat v5, true), ((decide ((v5 : Int) < (80 : Int))), true), ((decide ((v5 : Int) < (n3 : Int))), true)]) rfl rfl (show ∀ j ∈ rids (law06_RsetRunsC 2).2, j ∈ rids (law06_RsetRunsK 1) from by decide +kernel) (fun gv => by kernel_rfl) (oY <| obs_cons (dP_of (rset_Rset_Add_2C0 #[vp 1 0, vi (7 : Int), vi (7 : Int)] ((7 : Int)) ((7 : Int)) (a0) (([] : List R_ii))  y6_0 N c6 1 3 6 rfl (by decide) (by decide))) <| obs_cons (dP_of (cons_eq rfl (cons_eq rfl (cons_eq rfl (cons_eq rfl (cons_eq rfl (cons_eq rfl rfl))))))) <| obs_cons (dP_of (congrArg mapV (by first | rfl | simp))) <| obs_cons (dP_of (rset_Rset_Fork_2C0 #[vp 1 0] (a0) (([] : List R_ii))   N c5 1 3 5 rfl (by decide) (by decide))) <| obs_cons (dP_of (cons_eq rfl (cons_eq rfl (cons_eq rfl (cons_eq rfl (cons_eq rfl (cons_eq rfl rfl))))))) <| obs_cons (dP_of (congrArg mapV (by first | rfl | simp))) <| oT <| oF <| obs_cons ((show (o1 + v5 * 3 + 0) = (o1 + (v5 * 3)) from by omega) ▸ F0 v5 (by omega) 0 3 (show 0 + 3 ≤ 3 from by decide)) <| oB <| oI <| oY <| oY obs_nil) rfl (by decide) (by rfl) (fun _ => ⟨rr, ⟨rr, ⟨rr, ⟨rr, ⟨rr, ⟨rr, ⟨⟨Eq.trans (show (vi ((0 : Nat) : Int) : Value) = vq from (congrArg (Value.int .i64) (by first | rfl | omega))) (by rfl), by rfl⟩, ⟨rr, trivial⟩⟩⟩⟩⟩⟩⟩⟩) ⟨rfl, ⟨⟨rfl, ⟨[], by rfl⟩, by rfl⟩, ⟨⟨rfl, ⟨[], by rfl⟩, by rfl⟩, ⟨⟨rfl, ⟨[], by rfl⟩, by rfl⟩, trivial⟩⟩⟩⟩
        ·
         exact Mach.ok_none
       | r1 =>
        refine Mach.ok_ite (fun g7 => ?_) (fun g7 => ?_)
        ·
         exact Mach.ok_cut (bK := law06_RsetRunsC 2) (M := law06_RsetRunsM a0 o1 L2 n3 n4 a5 O0 N) (cd := 5) (cm := 2) (y := (.h2m0 (v5) (0) ((0 : Int)) (v8) ((L2.getD v5 R_uii.z).a0) ((L2.getD v5 R_uii.z).a1) ((L2.getD v5 R_uii.z).a2) : law06_RsetRunsX)) (fu := 4000) (orc := (orcw [(0, true), (1, true), (3, false), (4, true), (7, true)] [] [(0, v5)] [(0, [.k .u8 (L2.getD v5 R_uii.z).a0, .i (L2.getD v5 R_uii.z).a1, .i (L2.getD v5 R_uii.z).a2])] [(2, (rset_Rset_Fork_2T0 (a0) (([] : List R_ii))   1 3 5)), (3, (rset_Rset_Add_2T1 ((7 : Int)) ((7 : Int)) (a0) (([] : List R_ii))   1 3 6))])) (live := [0, 5, 2, 4]) (tv := fun _ => [some (vs 0 o1 n3 n4), some (vi a5), some (vp 5 0), some (vp 2 0), some (vi (v5 : Int)), some (vp 4 0), some (vq), some (vq)]) (bl := [some (.ro O0), some (.cells [vi a0, vn, Value.int .u32 (0 : Int), Value.int .i32 (0 : Int), Value.int .u32 (0 : Int), Value.map none] 64), some (.cells [vi v8, vn] 29), some (.cells [Value.int .u8 (L2.getD v5 R_uii.z).a0, vi (L2.getD v5 R_uii.z).a1, vi (L2.getD v5 R_uii.z).a2] 34)]) (ob := [((decide (a0 > (0 : Int))), true), (dP (rset_Rset_Add_2P1 #[vp 1 0, vi (7 : Int), vi (7 : Int)] ((7 : Int)) ((7 : Int)) (a0) (([] : List R_ii))   1 3 6), true), (dS [vi a0, vn, Value.int .u32 (1 : Int), Value.int .i32 (0 : Int), Value.int .u32 (0 : Int), Value.map (some 3)], true), (dS (mapV ([] : List R_ii)), true), (dP (rset_Rset_Fork_2P0 #[vp 1 0] (a0) (([] : List R_ii))   1 3 5), true), (dS [vi a0, vn, Value.int .u32 (1 : Int), Value.int .i32 (0 : Int), Value.int .u32 (0 : Int), Value.map (some 3)], true), (dS (mapV ([] : List R_ii)), true), (((Int.tmod (L2.getD v5 R_uii.z).a0 (7 : Int)) == (6 : Int)), true), (((Int.tmod (L2.getD v5 R_uii.z).a0 (7 : Int)) == (5 : Int)), false), (sameR (roRow O0 (o1 + (v5 * 3)) 3) [.k .u8 (L2.getD v5 R_uii.z).a0, .i (L2.getD v5 R_uii.z).a1, .i (L2.getD v5 R_uii.z).a2], true), (Nat.blt v5 n3, true), ((v5 : Int) == Int.ofNat v5, true), ((decide ((v5 : Int) < (80 : Int))), true), ((decide ((v5 : Int) < (n3 : Int))), true)]) rfl rfl (show ∀ j ∈ rids (law06_RsetRunsC 2).2, j ∈ rids (law06_RsetRunsK 1) from by decide +kernel) (fun gv => by kernel_rfl) (oY <| obs_cons (dP_of (rset_Rset_Add_2C1 #[vp 1 0, vi (7 : Int), vi (7 : Int)] ((7 : Int)) ((7 : Int)) (a0) (([] : List R_ii))   N c6 1 3 6 rfl (by decide) (by decide))) <| obs_cons (dP_of (cons_eq rfl (cons_eq rfl (cons_eq rfl (cons_eq rfl (cons_eq rfl (cons_eq rfl rfl))))))) <| obs_cons (dP_of (congrArg mapV (by first | rfl | simp))) <| obs_cons (dP_of (rset_Rset_Fork_2C0 #[vp 1 0] (a0) (([] : List R_ii))   N c5 1 3 5 rfl (by decide) (by decide))) <| obs_cons (dP_of (cons_eq rfl (cons_eq rfl (cons_eq rfl (cons_eq rfl (cons_eq rfl (cons_eq rfl rfl))))))) <| obs_cons (dP_of (congrArg mapV (by first | rfl | simp))) <| oT <| oF <| obs_cons ((show (o1 + v5 * 3 + 0) = (o1 + (v5 * 3)) from by omega) ▸ F0 v5 (by omega) 0 3 (show 0 + 3 ≤ 3 from by decide)) <| oB <| oI <| oY <| oY obs_nil) rfl (by decide) (by rfl) (fun _ => ⟨rr, ⟨rr, ⟨rr, ⟨rr, ⟨rr, ⟨rr, ⟨⟨Eq.trans (show (vi ((0 : Nat) : Int) : Value) = vq from (congrArg (Value.int .i64) (by first | rfl | omega))) (by rfl), by rfl⟩, ⟨rr, trivial⟩⟩⟩⟩⟩⟩⟩⟩) ⟨rfl, ⟨⟨rfl, ⟨[], by rfl⟩, by rfl⟩, ⟨⟨rfl, ⟨[], by rfl⟩, by rfl⟩, ⟨⟨rfl, ⟨[], by rfl⟩, by rfl⟩, trivial⟩⟩⟩⟩
        ·
         exact Mach.ok_none
     ·
      refine Mach.ok_bind (fun z5 c5 => ?_)
      cases z5 with
      | r0 y5_0 =>
       refine Mach.ok_bind (fun z6 c6 => ?_)
       cases z6 with
       | r0 y6_0 =>
        exact Mach.ok_cut (bK := law06_RsetRunsC 2) (M := law06_RsetRunsM a0 o1 L2 n3 n4 a5 O0 N) (cd := 5) (cm := 2) (y := (.h2m2 (v5) (y5_0) (y6_0) (v8) ((L2.getD v5 R_uii.z).a0) ((L2.getD v5 R_uii.z).a1) ((L2.getD v5 R_uii.z).a2) : law06_RsetRunsX)) (fu := 4000) (orc := (orcw [(0, true), (1, true), (3, false), (4, false)] [] [(0, v5)] [(0, [.k .u8 (L2.getD v5 R_uii.z).a0, .i (L2.getD v5 R_uii.z).a1, .i (L2.getD v5 R_uii.z).a2])] [(2, (rset_Rset_Add_2T0 ((L2.getD v5 R_uii.z).a1) ((L2.getD v5 R_uii.z).a2) (a0) (([] : List R_ii))  y5_0 1 3 5)), (3, (ref06_AddT0 (v8) ((L2.getD v5 R_uii.z).a1) ((L2.getD v5 R_uii.z).a2)  y6_0  5))])) (live := [0, 1, 2, 4, 3]) (tv := fun _ => [some (vs 0 o1 n3 n4), some (vi a5), some (vp 1 0), some (vp 2 0), some (vi (v5 : Int)), some (vp 4 0), some (vi y5_0), some (vi y6_0)]) (bl := [some (.ro O0), some (.cells [vi a0, vn, Value.int .u32 (1 : Int), Value.int .i32 (0 : Int), Value.int .u32 (0 : Int), Value.map (some 3)] 64), some (.cells [vi v8, vn] 29), some (.cells [Value.int .u8 (L2.getD v5 R_uii.z).a0, vi (L2.getD v5 R_uii.z).a1, vi (L2.getD v5 R_uii.z).a2] 34), some (.ro (mapV ([] : List R_ii)) true)]) (ob := [(dP (ref06_AddP0 #[Value.agg #[vi v8, vn], vi (L2.getD v5 R_uii.z).a1, vi (L2.getD v5 R_uii.z).a2] (v8) ((L2.getD v5 R_uii.z).a1) ((L2.getD v5 R_uii.z).a2)  y6_0  5), true), (dP (rset_Rset_Add_2P0 #[vp 1 0, vi (L2.getD v5 R_uii.z).a1, vi (L2.getD v5 R_uii.z).a2] ((L2.getD v5 R_uii.z).a1) ((L2.getD v5 R_uii.z).a2) (a0) (([] : List R_ii))  y5_0 1 3 5), true), (dS [vi a0, vn, Value.int .u32 (1 : Int), Value.int .i32 (0 : Int), Value.int .u32 (0 : Int), Value.map (some 3)], true), (dS (mapV ([] : List R_ii)), true), (((Int.tmod (L2.getD v5 R_uii.z).a0 (7 : Int)) == (6 : Int)), false), (((Int.tmod (L2.getD v5 R_uii.z).a0 (7 : Int)) == (5 : Int)), false), (sameR (roRow O0 (o1 + (v5 * 3)) 3) [.k .u8 (L2.getD v5 R_uii.z).a0, .i (L2.getD v5 R_uii.z).a1, .i (L2.getD v5 R_uii.z).a2], true), (Nat.blt v5 n3, true), ((v5 : Int) == Int.ofNat v5, true), ((decide ((v5 : Int) < (80 : Int))), true), ((decide ((v5 : Int) < (n3 : Int))), true)]) rfl rfl (show ∀ j ∈ rids (law06_RsetRunsC 2).2, j ∈ rids (law06_RsetRunsK 1) from by decide +kernel) (fun gv => by kernel_rfl) (obs_cons (dP_of (ref06_AddC0 #[Value.agg #[vi v8, vn], vi (L2.getD v5 R_uii.z).a1, vi (L2.getD v5 R_uii.z).a2] (v8) ((L2.getD v5 R_uii.z).a1) ((L2.getD v5 R_uii.z).a2)  y6_0 N c6  5 rfl (by decide) (by decide))) <| obs_cons (dP_of (rset_Rset_Add_2C0 #[vp 1 0, vi (L2.getD v5 R_uii.z).a1, vi (L2.getD v5 R_uii.z).a2] ((L2.getD v5 R_uii.z).a1) ((L2.getD v5 R_uii.z).a2) (a0) (([] : List R_ii))  y5_0 N c5 1 3 5 rfl (by decide) (by decide))) <| obs_cons (dP_of (cons_eq rfl (cons_eq rfl (cons_eq rfl (cons_eq rfl (cons_eq rfl (cons_eq rfl rfl))))))) <| obs_cons (dP_of (congrArg mapV (by first | rfl | simp))) <| oF <| oF <| obs_cons ((show (o1 + v5 * 3 + 0) = (o1 + (v5 * 3)) from by omega) ▸ F0 v5 (by omega) 0 3 (show 0 + 3 ≤ 3 from by decide)) <| oB <| oI <| oY <| oY obs_nil) rfl (by decide) (by rfl) (fun _ => ⟨rr, ⟨rr, ⟨rr, ⟨rr, ⟨rr, ⟨rr, ⟨rr, ⟨rr, trivial⟩⟩⟩⟩⟩⟩⟩⟩) ⟨rfl, ⟨⟨rfl, ⟨[], by rfl⟩, by rfl⟩, ⟨⟨rfl, ⟨[], by rfl⟩, by rfl⟩, ⟨⟨rfl, ⟨[], by rfl⟩, by rfl⟩, ⟨(show mapV ([] : List R_ii) = mapV ([] : List R_ii) from rfl), trivial⟩⟩⟩⟩⟩
       | r1 =>
        exact Mach.ok_none
      | r1 =>
       refine Mach.ok_bind (fun z6 c6 => ?_)
       cases z6 with
       | r0 _ =>
        exact Mach.ok_none
       | r1 =>
        exact Mach.ok_cut (bK := law06_RsetRunsC 2) (M := law06_RsetRunsM a0 o1 L2 n3 n4 a5 O0 N) (cd := 5) (cm := 2) (y := (.h2m1 (v5) ((0 : Int)) ((0 : Int)) (([(⟨(L2.getD v5 R_uii.z).a1, (L2.getD v5 R_uii.z).a2⟩ : R_ii)] : List R_ii)) ((mPut ([] : List R_ii) (L2.getD v5 R_uii.z).a1 (0 : Int))) (v8) (([(⟨(L2.getD v5 R_uii.z).a1, (L2.getD v5 R_uii.z).a2⟩ : R_ii)] : List R_ii)) ((L2.getD v5 R_uii.z).a0) ((L2.getD v5 R_uii.z).a1) ((L2.getD v5 R_uii.z).a2) : law06_RsetRunsX)) (fu := 4000) (orc := (orcw [(0, true), (1, true), (3, false), (4, false)] [] [(0, v5)] [(0, [.k .u8 (L2.getD v5 R_uii.z).a0, .i (L2.getD v5 R_uii.z).a1, .i (L2.getD v5 R_uii.z).a2])] [(2, (rset_Rset_Add_2T1 ((L2.getD v5 R_uii.z).a1) ((L2.getD v5 R_uii.z).a2) (a0) (([] : List R_ii))   1 3 5)), (3, (ref06_AddT1 (v8) ((L2.getD v5 R_uii.z).a1) ((L2.getD v5 R_uii.z).a2)    6))])) (live := [0, 1, 2, 4, 5, 3, 6]) (tv := fun _ => [some (vs 0 o1 n3 n4), some (vi a5), some (vp 1 0), some (vp 2 0), some (vi (v5 : Int)), some (vp 4 0), some (vq), some (vq)]) (bl := [some (.ro O0), some (.cells [vi a0, vs 5 0 1 1, Value.int .u32 (1 : Int), Value.int .i32 (0 : Int), Value.int .u32 (0 : Int), Value.map (some 3)] 64), some (.cells [vi v8, vs 6 0 1 1] 29), some (.cells [Value.int .u8 (L2.getD v5 R_uii.z).a0, vi (L2.getD v5 R_uii.z).a1, vi (L2.getD v5 R_uii.z).a2] 34), some (.cells (rowV E_ii ([(⟨(L2.getD v5 R_uii.z).a1, (L2.getD v5 R_uii.z).a2⟩ : R_ii)] : List R_ii)) 42), some (.ro (mapV (mPut ([] : List R_ii) (L2.getD v5 R_uii.z).a1 (0 : Int))) true), some (.cells (rowV E_ii ([(⟨(L2.getD v5 R_uii.z).a1, (L2.getD v5 R_uii.z).a2⟩ : R_ii)] : List R_ii)) 42)]) (ob := [(dP (ref06_AddP1 #[Value.agg #[vi v8, vn], vi (L2.getD v5 R_uii.z).a1, vi (L2.getD v5 R_uii.z).a2] (v8) ((L2.getD v5 R_uii.z).a1) ((L2.getD v5 R_uii.z).a2)    6), true), (dP (rset_Rset_Add_2P1 #[vp 1 0, vi (L2.getD v5 R_uii.z).a1, vi (L2.getD v5 R_uii.z).a2] ((L2.getD v5 R_uii.z).a1) ((L2.getD v5 R_uii.z).a2) (a0) (([] : List R_ii))   1 3 5), true), (dS [vi a0, vn, Value.int .u32 (1 : Int), Value.int .i32 (0 : Int), Value.int .u32 (0 : Int), Value.map (some 3)], true), (dS (mapV ([] : List R_ii)), true), (((Int.tmod (L2.getD v5 R_uii.z).a0 (7 : Int)) == (6 : Int)), false), (((Int.tmod (L2.getD v5 R_uii.z).a0 (7 : Int)) == (5 : Int)), false), (sameR (roRow O0 (o1 + (v5 * 3)) 3) [.k .u8 (L2.getD v5 R_uii.z).a0, .i (L2.getD v5 R_uii.z).a1, .i (L2.getD v5 R_uii.z).a2], true), (Nat.blt v5 n3, true), ((v5 : Int) == Int.ofNat v5, true), ((decide ((v5 : Int) < (80 : Int))), true), ((decide ((v5 : Int) < (n3 : Int))), true)]) rfl rfl (show ∀ j ∈ rids (law06_RsetRunsC 2).2, j ∈ rids (law06_RsetRunsK 1) from by decide +kernel) (fun gv => by kernel_rfl) (obs_cons (dP_of (ref06_AddC1 #[Value.agg #[vi v8, vn], vi (L2.getD v5 R_uii.z).a1, vi (L2.getD v5 R_uii.z).a2] (v8) ((L2.getD v5 R_uii.z).a1) ((L2.getD v5 R_uii.z).a2)   N c6  6 rfl (by decide) (by decide))) <| obs_cons (dP_of (rset_Rset_Add_2C1 #[vp 1 0, vi (L2.getD v5 R_uii.z).a1, vi (L2.getD v5 R_uii.z).a2] ((L2.getD v5 R_uii.z).a1) ((L2.getD v5 R_uii.z).a2) (a0) (([] : List R_ii))   N c5 1 3 5 rfl (by decide) (by decide))) <| obs_cons (dP_of (cons_eq rfl (cons_eq rfl (cons_eq rfl (cons_eq rfl (cons_eq rfl (cons_eq rfl rfl))))))) <| obs_cons (dP_of (congrArg mapV (by first | rfl | simp))) <| oF <| oF <| obs_cons ((show (o1 + v5 * 3 + 0) = (o1 + (v5 * 3)) from by omega) ▸ F0 v5 (by omega) 0 3 (show 0 + 3 ≤ 3 from by decide)) <| oB <| oI <| oY <| oY obs_nil) rfl (by decide) (by rfl) (fun _ => ⟨rr, ⟨rr, ⟨rr, ⟨rr, ⟨rr, ⟨rr, ⟨rr, ⟨rr, trivial⟩⟩⟩⟩⟩⟩⟩⟩) ⟨rfl, ⟨⟨rfl, ⟨[], (show ([vi a0, vs 4 0 1 1, Value.int .u32 (1 : Int), Value.int .i32 (0 : Int), Value.int .u32 (0 : Int), Value.map (some 5)] : List Value) = _ from (cons_eq rfl (cons_eq (slice_eq rfl eqA eqA) (cons_eq rfl (cons_eq rfl (cons_eq rfl (cons_eq rfl rfl)))))).symm)⟩, by rfl⟩, ⟨⟨rfl, ⟨[], (show ([vi v8, vs 6 0 1 1] : List Value) = _ from (cons_eq rfl (cons_eq (slice_eq rfl eqA eqA) rfl)).symm)⟩, by rfl⟩, ⟨⟨rfl, ⟨[], by rfl⟩, by rfl⟩, ⟨(same_row (E := E_ii) (α := R_ii) _ ([(⟨(L2.getD v5 R_uii.z).a1, (L2.getD v5 R_uii.z).a2⟩ : R_ii)] : List R_ii) _), ⟨(show mapV (mPut ([] : List R_ii) (L2.getD v5 R_uii.z).a1 (0 : Int)) = mapV (mPut ([] : List R_ii) (L2.getD v5 R_uii.z).a1 (0 : Int)) from rfl), ⟨(same_row (E := E_ii) (α := R_ii) _ ([(⟨(L2.getD v5 R_uii.z).a1, (L2.getD v5 R_uii.z).a2⟩ : R_ii)] : List R_ii) _), trivial⟩⟩⟩⟩⟩⟩⟩
   ·
    exact Mach.ok_none
  ·
   exact Mach.ok_fin (M := law06_RsetRunsM a0 o1 L2 n3 n4 a5 O0 N) (cd := 1000000) (cm := 0) (r := (.r0 (true) : law06_RsetRunsR)) (fu := 4000) (orc := (orcw [(0, true), (1, false)] [] [] [] [])) (live := [0]) (u := vT) (bl := [some (.ro O0)]) (ob := [((decide ((v5 : Int) < (80 : Int))), false), ((decide ((v5 : Int) < (n3 : Int))), true)]) (fun gv => by kernel_rfl) (oN <| oY obs_nil) rfl (by decide) (by rfl) rr ⟨rfl, trivial⟩
 ·
  exact Mach.ok_fin (M := law06_RsetRunsM a0 o1 L2 n3 n4 a5 O0 N) (cd := 1000000) (cm := 0) (r := (.r0 (true) : law06_RsetRunsR)) (fu := 4000) (orc := (orcw [(0, false)] [] [] [] [])) (live := [0]) (u := vT) (bl := [some (.ro O0)]) (ob := [((decide ((v5 : Int) < (n3 : Int))), false)]) (fun gv => by kernel_rfl) (oN obs_nil) rfl (by decide) (by rfl) rr ⟨rfl, trivial⟩

theorem law06_RsetRuns_ok1_3 (a0 : Int) (o1 : Nat) (L2 : List R_uii) (n3 n4 : Nat) (a5 : Int) (O0 : Obj) (F0 : RO_uii O0 o1 L2) (v5 : Nat) (v7 v8 : List R_ii) (v9 : Int) (v10 : List R_ii) (N : Nat) : (law06_RsetRunsM a0 o1 L2 n3 n4 a5 O0 N).Ok Try.prog ext_Sr (.h1m3 v5 v7 v8 v9 v10 : law06_RsetRunsX) (law06_RsetRunsStep a0 L2 n3 n4 a5 N (.h1m3 v5 v7 v8 v9 v10 : law06_RsetRunsX)) := by
 show (law06_RsetRunsM a0 o1 L2 n3 n4 a5 O0 N).Ok Try.prog ext_Sr (.h1m3 v5 v7 v8 v9 v10 : law06_RsetRunsX) (law06_RsetRuns_h1m3 a0 L2 n3 n4 a5 N v5 v7 v8 v9 v10)
 unfold law06_RsetRuns_h1m3
 refine Mach.ok_ite (fun g0 => ?_) (fun g0 => ?_)
 ·
  refine Mach.ok_ite (fun g1 => ?_) (fun g1 => ?_)
  ·
   refine Mach.ok_ite (fun g2 => ?_) (fun g2 => ?_)
   ·
    refine Mach.ok_ite (fun g3 => ?_) (fun g3 => ?_)
    ·
     refine Mach.ok_ite (fun g4 => ?_) (fun g4 => ?_)
     ·
      exact Mach.ok_cut (bK := law06_RsetRunsC 2) (M := law06_RsetRunsM a0 o1 L2 n3 n4 a5 O0 N) (cd := 5) (cm := 2) (y := (.h2m2 (v5) ((0 : Int)) ((0 : Int)) (v9) ((L2.getD v5 R_uii.z).a0) ((L2.getD v5 R_uii.z).a1) ((L2.getD v5 R_uii.z).a2) : law06_RsetRunsX)) (fu := 4000) (orc := (orcw [(0, true), (1, true), (3, true), (5, true)] [] [(0, v5)] [(0, [.k .u8 (L2.getD v5 R_uii.z).a0, .i (L2.getD v5 R_uii.z).a1, .i (L2.getD v5 R_uii.z).a2])] [])) (live := [0, 1, 2, 6, 4]) (tv := fun _ => [some (vs 0 o1 n3 n4), some (vi a5), some (vp 1 0), some (vp 2 0), some (vi (v5 : Int)), some (vp 6 0), some (vq), some (vq)]) (bl := [some (.ro O0), some (.cells [vi a0, vn, Value.int .u32 (1 : Int), Value.int .i32 (0 : Int), Value.int .u32 (0 : Int), Value.map (some 4)] 64), some (.cells [vi v9, vn] 29), some (.cells [Value.int .u8 (L2.getD v5 R_uii.z).a0, vi (L2.getD v5 R_uii.z).a1, vi (L2.getD v5 R_uii.z).a2] 34), some (.ro (mapV ([] : List R_ii)) true)]) (ob := [((decide (a0 > (0 : Int))), true), (((Int.tmod (L2.getD v5 R_uii.z).a0 (7 : Int)) == (5 : Int)), true), (sameR (roRow O0 (o1 + (v5 * 3)) 3) [.k .u8 (L2.getD v5 R_uii.z).a0, .i (L2.getD v5 R_uii.z).a1, .i (L2.getD v5 R_uii.z).a2], true), (Nat.blt v5 n3, true), ((v5 : Int) == Int.ofNat v5, true), ((decide ((v5 : Int) < (80 : Int))), true), ((decide ((v5 : Int) < (n3 : Int))), true)]) rfl rfl (show ∀ j ∈ rids (law06_RsetRunsC 2).2, j ∈ rids (law06_RsetRunsK 1) from by decide +kernel) (fun gv => by kernel_rfl) (oY <| oT <| obs_cons ((show (o1 + v5 * 3 + 0) = (o1 + (v5 * 3)) from by omega) ▸ F0 v5 (by omega) 0 3 (show 0 + 3 ≤ 3 from by decide)) <| oB <| oI <| oY <| oY obs_nil) rfl (by decide) (by rfl) (fun _ => ⟨rr, ⟨rr, ⟨rr, ⟨rr, ⟨rr, ⟨rr, ⟨rr, ⟨rr, trivial⟩⟩⟩⟩⟩⟩⟩⟩) ⟨rfl, ⟨⟨rfl, ⟨[], by rfl⟩, by rfl⟩, ⟨⟨rfl, ⟨[], by rfl⟩, by rfl⟩, ⟨⟨rfl, ⟨[], by rfl⟩, by rfl⟩, ⟨(show mapV ([] : List R_ii) = mapV ([] : List R_ii) from rfl), trivial⟩⟩⟩⟩⟩
     ·
      exact Mach.ok_none
    ·
     refine Mach.ok_ite (fun g4 => ?_) (fun g4 => ?_)
     ·
      refine Mach.ok_bind (fun z5 c5 => ?_)
      cases z5 with
      | r0 y5_0 =>
       refine Mach.ok_bind (fun z6 c6 => ?_)
       cases z6 with
       | r0 y6_0 =>
        refine Mach.ok_ite (fun g7 => ?_) (fun g7 => ?_)
        ·
         exact Mach.ok_cut (bK := law06_RsetRunsC 2) (M := law06_RsetRunsM a0 o1 L2 n3 n4 a5 O0 N) (cd := 5) (cm := 2) (y := (.h2m3 (v5) (y5_0) (v9) (v10) ((L2.getD v5 R_uii.z).a0) ((L2.getD v5 R_uii.z).a1) ((L2.getD v5 R_uii.z).a2) : law06_RsetRunsX)) (fu := 4000) (orc := (orcw [(0, true), (1, true), (3, false), (4, true), (7, true)] [] [(0, v5)] [(0, [.k .u8 (L2.getD v5 R_uii.z).a0, .i (L2.getD v5 R_uii.z).a1, .i (L2.getD v5 R_uii.z).a2])] [(2, (rset_Rset_Fork_3T0 (a0) (v7) (v8)  y5_0 1 3 4 7)), (3, (rset_Rset_Add_3T0 ((7 : Int)) ((7 : Int)) (a0) (v7) (v8)  y6_0 1 3 4 9))])) (live := [0, 7, 2, 6, 8, 5]) (tv := fun _ => [some (vs 0 o1 n3 n4), some (vi a5), some (vp 7 0), some (vp 2 0), some (vi (v5 : Int)), some (vp 6 0), some (vq), some (vq)]) (bl := [some (.ro O0), some (.cells [vi a0, vs 8 0 y5_0.length y5_0.length, Value.int .u32 (0 : Int), Value.int .i32 (0 : Int), Value.int .u32 (0 : Int), Value.map none] 64), some (.cells [vi v9, vs 5 0 v10.length v10.length] 29), some (.cells [Value.int .u8 (L2.getD v5 R_uii.z).a0, vi (L2.getD v5 R_uii.z).a1, vi (L2.getD v5 R_uii.z).a2] 34), some (.cells (rowV E_ii y5_0) 42), some (.cells (rowV E_ii v10) 42)]) (ob := [((decide (a0 > (0 : Int))), true), (dP (rset_Rset_Add_3P0 #[vp 1 0, vi (7 : Int), vi (7 : Int)] ((7 : Int)) ((7 : Int)) (a0) (v7) (v8)  y6_0 1 3 4 9), true), (dS [vi a0, vs 3 0 v7.length v7.length, Value.int .u32 (1 : Int), Value.int .i32 (0 : Int), Value.int .u32 (0 : Int), Value.map (some 4)], true), (dS (rowV E_ii v7), true), (dS (mapV v8), true), (dP (rset_Rset_Fork_3P0 #[vp 1 0] (a0) (v7) (v8)  y5_0 1 3 4 7), true), (dS [vi a0, vs 3 0 v7.length v7.length, Value.int .u32 (1 : Int), Value.int .i32 (0 : Int), Value.int .u32 (0 : Int), Value.map (some 4)], true), (dS (rowV E_ii v7), true), (dS (mapV v8), true), (((Int.tmod (L2.getD v5 R_uii.z).a0 (7 : Int)) == (6 : Int)), true), (((Int.tmod (L2.getD v5 R_uii.z).a0 (7 : Int)) == (5 : Int)), false), (sameR (roRow O0 (o1 + (v5 * 3)) 3) [.k .u8 (L2.getD v5 R_uii.z).a0, .i (L2.getD v5 R_uii.z).a1, .i (L2.getD v5 R_uii.z).a2], true), (Nat.blt v5 n3, true), ((v5 : Int) == Int.ofNat v5, true), ((decide ((v5 : Int) < (80 : Int))), true), ((decide ((v5 : Int) < (n3 : Int))), true)]) rfl rfl (show ∀ j ∈ rids (law06_RsetRunsC 2).2, j ∈ rids (law06_RsetRunsK 1) from by decide +kernel) (fun gv => by kernel_rfl) (oY <| obs_cons (dP_of (rset_Rset_Add_3C0 #[vp 1 0, vi (7 : Int), vi (7 : Int)] ((7 : Int)) ((7 : Int)) (a0) (v7) (v8)  y6_0 N c6 1 3 4 9 rfl (by decide) (by decide))) <| obs_cons (dP_of (cons_eq rfl (cons_eq rfl (cons_eq rfl (cons_eq rfl (cons_eq rfl (cons_eq rfl rfl))))))) <| oR <| obs_cons (dP_of (congrArg mapV (by first | rfl | simp))) <| obs_cons (dP_of (rset_Rset_Fork_3C0 #[vp 1 0] (a0) (v7) (v8)  y5_0 N c5 1 3 4 7 rfl (by decide) (by decide))) <| obs_cons (dP_of (cons_eq rfl (cons_eq rfl (cons_eq rfl (cons_eq rfl (cons_eq rfl (cons_eq rfl rfl))))))) <| oR <| obs_cons (dP_of (congrArg mapV (by first | rfl | simp))) <| oT <| oF <| obs_cons ((show (o1 + v5 * 3 + 0) = (o1 + (v5 * 3)) from by omega) ▸ F0 v5 (by omega) 0 3 (show 0 + 3 ≤ 3 from by decide)) <| oB <| oI <| oY <| oY obs_nil) rfl (by decide) (by rfl) (fun _ => ⟨rr, ⟨rr, ⟨rr, ⟨rr, ⟨rr, ⟨rr, ⟨rr, ⟨rr, trivial⟩⟩⟩⟩⟩⟩⟩⟩) ⟨rfl, ⟨⟨rfl, ⟨[], by rfl⟩, by rfl⟩, ⟨⟨rfl, ⟨[], by rfl⟩, by rfl⟩, ⟨⟨rfl, ⟨[], by rfl⟩, by rfl⟩, ⟨(same_row (E := E_ii) (α := R_ii) _ y5_0 _), ⟨(same_row (E := E_ii) (α := R_ii) _ v10 _), trivial⟩⟩⟩⟩⟩⟩
        ·
         exact Mach.ok_none
       | r1 =>
        refine Mach.ok_ite (fun g7 => ?_) (fun g7 => ?_)
        ·
         exact Mach.ok_cut (bK := law06_RsetRunsC 2) (M := law06_RsetRunsM a0 o1 L2 n3 n4 a5 O0 N) (cd := 5) (cm := 2) (y := (.h2m3 (v5) (y5_0) (v9) (v10) ((L2.getD v5 R_uii.z).a0) ((L2.getD v5 R_uii.z).a1) ((L2.getD v5 R_uii.z).a2) : law06_RsetRunsX)) (fu := 4000) (orc := (orcw [(0, true), (1, true), (3, false), (4, true), (7, true)] [] [(0, v5)] [(0, [.k .u8 (L2.getD v5 R_uii.z).a0, .i (L2.getD v5 R_uii.z).a1, .i (L2.getD v5 R_uii.z).a2])] [(2, (rset_Rset_Fork_3T0 (a0) (v7) (v8)  y5_0 1 3 4 7)), (3, (rset_Rset_Add_3T1 ((7 : Int)) ((7 : Int)) (a0) (v7) (v8)   1 3 4 9))])) (live := [0, 7, 2, 6, 8, 5]) (tv := fun _ => [some (vs 0 o1 n3 n4), some (vi a5), some (vp 7 0), some (vp 2 0), some (vi (v5 : Int)), some (vp 6 0), some (vq), some (vq)]) (bl := [some (.ro O0), some (.cells [vi a0, vs 8 0 y5_0.length y5_0.length, Value.int .u32 (0 : Int), Value.int .i32 (0 : Int), Value.int .u32 (0 : Int), Value.map none] 64), some (.cells [vi v9, vs 5 0 v10.length v10.length] 29), some (.cells [Value.int .u8 (L2.getD v5 R_uii.z).a0, vi (L2.getD v5 R_uii.z).a1, vi (L2.getD v5 R_uii.z).a2] 34), some (.cells (rowV E_ii y5_0) 42), some (.cells (rowV E_ii v10) 42)]) (ob := [((decide (a0 > (0 : Int))), true), (dP (rset_Rset_Add_3P1 #[vp 1 0, vi (7 : Int), vi (7 : Int)] ((7 : Int)) ((7 : Int)) (a0) (v7) (v8)   1 3 4 9), true), (dS [vi a0, vs 3 0 v7.length v7.length, Value.int .u32 (1 : Int), Value.int .i32 (0 : Int), Value.int .u32 (0 : Int), Value.map (some 4)], true), (dS (rowV E_ii v7), true), (dS (mapV v8), true), (dP (rset_Rset_Fork_3P0 #[vp 1 0] (a0) (v7) (v8)  y5_0 1 3 4 7), true), (dS [vi a0, vs 3 0 v7.length v7.length, Value.int .u32 (1 : Int), Value.int .i32 (0 : Int), Value.int .u32 (0 : Int), Value.map (some 4)], true), (dS (rowV E_ii v7), true), (dS (mapV v8), true), (((Int.tmod (L2.getD v5 R_uii.z).a0 (7 : Int)) == (6 : Int)), true), (((Int.tmod (L2.getD v5 R_uii.z).a0 (7 : Int)) == (5 : Int)), false), (sameR (roRow O0 (o1 + (v5 * 3)) 3) [.k .u8 (L2.getD v5 R_uii.z).a0, .i (L2.getD v5 R_uii.z).a1, .i (L2.getD v5 R_uii.z).a2], true), (Nat.blt v5 n3, true), ((v5 : Int) == Int.ofNat v5, true), ((decide ((v5 : Int) < (80 : Int))), true), ((decide ((v5 : Int) < (n3 : Int))), true)]) rfl rfl (show ∀ j ∈ rids (law06_RsetRunsC 2).2, j ∈ rids (law06_RsetRunsK 1) from by decide +kernel) (fun gv => by kernel_rfl) (oY <| obs_cons (dP_of (rset_Rset_Add_3C1 #[vp 1 0, vi (7 : Int), vi (7 : Int)] ((7 : Int)) ((7 : Int)) (a0) (v7) (v8)   N c6 1 3 4 9 rfl (by decide) (by decide))) <| obs_cons (dP_of (cons_eq rfl (cons_eq rfl (cons_eq rfl (cons_eq rfl (cons_eq rfl (cons_eq rfl rfl))))))) <| oR <| obs_cons (dP_of (congrArg mapV (by first | rfl | simp))) <| obs_cons (dP_of (rset_Rset_Fork_3C0 #[vp 1 0] (a0) (v7) (v8)  y5_0 N c5 1 3 4 7 rfl (by decide) (by decide))) <| obs_cons (dP_of (cons_eq rfl (cons_eq rfl (cons_eq rfl (cons_eq rfl (cons_eq rfl (cons_eq rfl rfl))))))) <| oR <| obs_cons (dP_of (congrArg mapV (by first | rfl | simp))) <| oT <| oF <| obs_cons ((show (o1 + v5 * 3 + 0) = (o1 + (v5 * 3)) from by omega) ▸ F0 v5 (by omega) 0 3 (show 0 + 3 ≤ 3 from by decide)) <| oB <| oI <| oY <| oY obs_nil) rfl (by decide) (by rfl) (fun _ => ⟨rr, ⟨rr, ⟨rr, ⟨rr, ⟨rr, ⟨rr, ⟨rr, ⟨rr, trivial⟩⟩⟩⟩⟩⟩⟩⟩) ⟨rfl, ⟨⟨rfl, ⟨[], by rfl⟩, by rfl⟩, ⟨⟨rfl, ⟨[], by rfl⟩, by rfl⟩, ⟨⟨rfl, ⟨[], by rfl⟩, by rfl⟩, ⟨(same_row (E := E_ii) (α := R_ii) _ y5_0 _), ⟨(same_row (E := E_ii) (α := R_ii) _ v10 _), trivial⟩⟩⟩⟩⟩⟩
        ·
         exact Mach.ok_none
     ·
      refine Mach.ok_bind (fun z5 c5 => ?_)
      cases z5 with
      | r0 y5_0 =>
       refine Mach.ok_bind (fun z6 c6 => ?_)
       cases z6 with
       | r0 y6_0 =>
        exact Mach.ok_cut (bK := law06_RsetRunsC 2) (M := law06_RsetRunsM a0 o1 L2 n3 n4 a5 O0 N) (cd := 5) (cm := 2) (y := (.h2m1 (v5) (y5_0) (y6_0) (v7) (v8) (v9) (v10) ((L2.getD v5 R_uii.z).a0) ((L2.getD v5 R_uii.z).a1) ((L2.getD v5 R_uii.z).a2) : law06_RsetRunsX)) (fu := 4000) (orc := (orcw [(0, true), (1, true), (3, false), (4, false)] [] [(0, v5)] [(0, [.k .u8 (L2.getD v5 R_uii.z).a0, .i (L2.getD v5 R_uii.z).a1, .i (L2.getD v5 R_uii.z).a2])] [(2, (rset_Rset_Add_3T0 ((L2.getD v5 R_uii.z).a1) ((L2.getD v5 R_uii.z).a2) (a0) (v7) (v8)  y5_0 1 3 4 7)), (3, (ref06_Add_2T0 (v9) (v10) ((L2.getD v5 R_uii.z).a1) ((L2.getD v5 R_uii.z).a2)  y6_0 5 7))])) (live := [0, 1, 2, 6, 3, 4, 5]) (tv := fun _ => [some (vs 0 o1 n3 n4), some (vi a5), some (vp 1 0), some (vp 2 0), some (vi (v5 : Int)), some (vp 6 0), some (vi y5_0), some (vi y6_0)]) (bl := [some (.ro O0), some (.cells [vi a0, vs 3 0 v7.length v7.length, Value.int .u32 (1 : Int), Value.int .i32 (0 : Int), Value.int .u32 (0 : Int), Value.map (some 4)] 64), some (.cells [vi v9, vs 5 0 v10.length v10.length] 29), some (.cells [Value.int .u8 (L2.getD v5 R_uii.z).a0, vi (L2.getD v5 R_uii.z).a1, vi (L2.getD v5 R_uii.z).a2] 34), some (.cells (rowV E_ii v7) 42), some (.ro (mapV v8) true), some (.cells (rowV E_ii v10) 42)]) (ob := [(dP (ref06_Add_2P0 #[Value.agg #[vi v9, vs 5 0 v10.length v10.length], vi (L2.getD v5 R_uii.z).a1, vi (L2.getD v5 R_uii.z).a2] (v9) (v10) ((L2.getD v5 R_uii.z).a1) ((L2.getD v5 R_uii.z).a2)  y6_0 5 7), true), (dS (rowV E_ii v10), true), (dP (rset_Rset_Add_3P0 #[vp 1 0, vi (L2.getD v5 R_uii.z).a1, vi (L2.getD v5 R_uii.z).a2] ((L2.getD v5 R_uii.z).a1) ((L2.getD v5 R_uii.z).a2) (a0) (v7) (v8)  y5_0 1 3 4 7), true), (dS [vi a0, vs 3 0 v7.length v7.length, Value.int .u32 (1 : Int), Value.int .i32 (0 : Int), Value.int .u32 (0 : Int), Value.map (some 4)], true), (dS (rowV E_ii v7), true), (dS (mapV v8), true), (((Int.tmod (L2.getD v5 R_uii.z).a0 (7 : Int)) == (6 : Int)), false), (((Int.tmod (L2.getD v5 R_uii.z).a0 (7 : Int)) == (5 : Int)), false), (sameR (roRow O0 (o1 + (v5 * 3)) 3) [.k .u8 (L2.getD v5 R_uii.z).a0, .i (L2.getD v5 R_uii.z).a1, .i (L2.getD v5 R_uii.z).a2], true), (Nat.blt v5 n3, true), ((v5 : Int) == Int.ofNat v5, true), ((decide ((v5 : Int) < (80 : Int))), true), ((decide ((v5 : Int) < (n3 : Int))), true)]) rfl rfl (show ∀ j ∈ rids (law06_RsetRunsC 2).2, j ∈ rids (law06_RsetRunsK 1) from by decide +kernel) (fun gv => by kernel_rfl) (obs_cons (dP_of (ref06_Add_2C0 #[Value.agg #[vi v9, vs 5 0 v10.length v10.length], vi (L2.getD v5 R_uii.z).a1, vi (L2.getD v5 R_uii.z).a2] (v9) (v10) ((L2.getD v5 R_uii.z).a1) ((L2.getD v5 R_uii.z).a2)  y6_0 N c6 5 7 rfl (by decide) (by decide))) <| oR <| obs_cons (dP_of (rset_Rset_Add_3C0 #[vp 1 0, vi (L2.getD v5 R_uii.z).a1, vi (L2.getD v5 R_uii.z).a2] ((L2.getD v5 R_uii.z).a1) ((L2.getD v5 R_uii.z).a2) (a0) (v7) (v8)  y5_0 N c5 1 3 4 7 rfl (by decide) (by decide))) <| obs_cons (dP_of (cons_eq rfl (cons_eq rfl (cons_eq rfl (cons_eq rfl (cons_eq rfl (cons_eq rfl rfl))))))) <| oR <| obs_cons (dP_of (congrArg mapV (by first | rfl | simp))) <| oF <| oF <| obs_cons ((show (o1 + v5 * 3 + 0) = (o1 + (v5 * 3)) from by omega) ▸ F0 v5 (by omega) 0 3 (show 0 + 3 ≤ 3 from by decide)) <| oB <| oI <| oY <| oY obs_nil) rfl (by decide) (by rfl) (fun _ => ⟨rr, ⟨rr, ⟨rr, ⟨rr, ⟨rr, ⟨rr, ⟨rr, ⟨rr, trivial⟩⟩⟩⟩⟩⟩⟩⟩) ⟨rfl, ⟨⟨rfl, ⟨[], by rfl⟩, by rfl⟩, ⟨⟨rfl, ⟨[], by rfl⟩, by rfl⟩, ⟨⟨rfl, ⟨[], by rfl⟩, by rfl⟩, ⟨(same_row (E := E_ii) (α := R_ii) _ v7 _), ⟨(show mapV v8 = mapV v8 from rfl), ⟨(same_row (E := E_ii) (α := R_ii) _ v10 _), trivial⟩⟩⟩⟩⟩⟩⟩
       | r1 _ =>
        exact Mach.ok_none
      | r1 =>
       refine Mach.ok_bind (fun z6 c6 => ?_)
       cases z6 with
       | r0 _ =>
        exact Mach.ok_none
       | r1 y6_0 =>
        exact Mach.ok_cut (bK := law06_RsetRunsC 2) (M := law06_RsetRunsM a0 o1 L2 n3 n4 a5 O0 N) (cd := 5) (cm := 2) (y := (.h2m1 (v5) ((0 : Int)) ((0 : Int)) ((v7 ++ ([(⟨(L2.getD v5 R_uii.z).a1, (L2.getD v5 R_uii.z).a2⟩ : R_ii)] : List R_ii))) ((mPut v8 (L2.getD v5 R_uii.z).a1 ((v7.length : Nat) : Int))) (v9) (y6_0) ((L2.getD v5 R_uii.z).a0) ((L2.getD v5 R_uii.z).a1) ((L2.getD v5 R_uii.z).a2) : law06_RsetRunsX)) (fu := 4000) (orc := (orcw [(0, true), (1, true), (3, false), (4, false)] [] [(0, v5)] [(0, [.k .u8 (L2.getD v5 R_uii.z).a0, .i (L2.getD v5 R_uii.z).a1, .i (L2.getD v5 R_uii.z).a2])] [(2, (rset_Rset_Add_3T1 ((L2.getD v5 R_uii.z).a1) ((L2.getD v5 R_uii.z).a2) (a0) (v7) (v8)   1 3 4 7)), (3, (ref06_Add_2T1 (v9) (v10) ((L2.getD v5 R_uii.z).a1) ((L2.getD v5 R_uii.z).a2)  y6_0 5 8))])) (live := [0, 1, 2, 6, 7, 4, 8]) (tv := fun _ => [some (vs 0 o1 n3 n4), some (vi a5), some (vp 1 0), some (vp 2 0), some (vi (v5 : Int)), some (vp 6 0), some (vq), some (vq)]) (bl := [some (.ro O0), some (.cells [vi a0, vs 7 0 (v7.length + 1) (v7.length + 1), Value.int .u32 (1 : Int), Value.int .i32 (0 : Int), Value.int .u32 (0 : Int), Value.map (some 4)] 64), some (.cells [vi v9, vs 8 0 y6_0.length y6_0.length] 29), some (.cells [Value.int .u8 (L2.getD v5 R_uii.z).a0, vi (L2.getD v5 R_uii.z).a1, vi (L2.getD v5 R_uii.z).a2] 34), some (.cells (rowV E_ii (v7 ++ ([(⟨(L2.getD v5 R_uii.z).a1, (L2.getD v5 R_uii.z).a2⟩ : R_ii)] : List R_ii))) 42), some (.ro (mapV (mPut v8 (L2.getD v5 R_uii.z).a1 ((v7.length : Nat) : Int))) true), some (.cells (rowV E_ii y6_0) 42)]) (ob := [(dP (ref06_Add_2P1 #[Value.agg #[vi v9, vs 5 0 v10.length v10.length], vi (L2.getD v5 R_uii.z).a1, vi (L2.getD v5 R_uii.z).a2] (v9) (v10) ((L2.getD v5 R_uii.z).a1) ((L2.getD v5 R_uii.z).a2)  y6_0 5 8), true), (dS (rowV E_ii v10), true), (dP (rset_Rset_Add_3P1 #[vp 1 0, vi (L2.getD v5 R_uii.z).a1, vi (L2.getD v5 R_uii.z).a2] ((L2.getD v5 R_uii.z).a1) ((L2.getD v5 R_uii.z).a2) (a0) (v7) (v8)   1 3 4 7), true), (dS [vi a0, vs 3 0 v7.length v7.length, Value.int .u32 (1 : Int), Value.int .i32 (0 : Int), Value.int .u32 (0 : Int), Value.map (some 4)], true), (dS (rowV E_ii v7), true), (dS (mapV v8), true), (((Int.tmod (L2.getD v5 R_uii.z).a0 (7 : Int)) == (6 : Int)), false), (((Int.tmod (L2.getD v5 R_uii.z).a0 (7 : Int)) == (5 : Int)), false), (sameR (roRow O0 (o1 + (v5 * 3)) 3) [.k .u8 (L2.getD v5 R_uii.z).a0, .i (L2.getD v5 R_uii.z).a1, .i (L2.getD v5 R_uii.z).a2], true), (Nat.blt v5 n3, true), ((v5 : Int) == Int.ofNat v5, true), ((decide ((v5 : Int) < (80 : Int))), true), ((decide ((v5 : Int) < (n3 : Int))), true)]) rfl rfl (show ∀ j ∈ rids (law06_RsetRunsC 2).2, j ∈ rids (law06_RsetRunsK 1) from by decide +kernel) (fun gv => by kernel_rfl) (obs_cons (dP_of (ref06_Add_2C1 #[Value.agg #[vi v9, vs 5 0 v10.length v10.length], vi (L2.getD v5 R_uii.z).a1, vi (L2.getD v5 R_uii.z).a2] (v9) (v10) ((L2.getD v5 R_uii.z).a1) ((L2.getD v5 R_uii.z).a2)  y6_0 N c6 5 8 rfl (by decide) (by decide))) <| oR <| obs_cons (dP_of (rset_Rset_Add_3C1 #[vp 1 0, vi (L2.getD v5 R_uii.z).a1, vi (L2.getD v5 R_uii.z).a2] ((L2.getD v5 R_uii.z).a1) ((L2.getD v5 R_uii.z).a2) (a0) (v7) (v8)   N c5 1 3 4 7 rfl (by decide) (by decide))) <| obs_cons (dP_of (cons_eq rfl (cons_eq rfl (cons_eq rfl (cons_eq rfl (cons_eq rfl (cons_eq rfl rfl))))))) <| oR <| obs_cons (dP_of (congrArg mapV (by first | rfl | simp))) <| oF <| oF <| obs_cons ((show (o1 + v5 * 3 + 0) = (o1 + (v5 * 3)) from by omega) ▸ F0 v5 (by omega) 0 3 (show 0 + 3 ≤ 3 from by decide)) <| oB <| oI <| oY <| oY obs_nil) rfl (by decide) (by rfl) (fun _ => ⟨rr, ⟨rr, ⟨rr, ⟨rr, ⟨rr, ⟨rr, ⟨rr, ⟨rr, trivial⟩⟩⟩⟩⟩⟩⟩⟩) ⟨rfl, ⟨⟨rfl, ⟨[], (show ([vi a0, vs 4 0 (v7.length + 1) (v7.length + 1), Value.int .u32 (1 : Int), Value.int .i32 (0 : Int), Value.int .u32 (0 : Int), Value.map (some 5)] : List Value) = _ from (cons_eq rfl (cons_eq (slice_eq rfl eqA eqA) (cons_eq rfl (cons_eq rfl (cons_eq rfl (cons_eq rfl rfl)))))).symm)⟩, by rfl⟩, ⟨⟨rfl, ⟨[], by rfl⟩, by rfl⟩, ⟨⟨rfl, ⟨[], by rfl⟩, by rfl⟩, ⟨(same_row (E := E_ii) (α := R_ii) _ (v7 ++ ([(⟨(L2.getD v5 R_uii.z).a1, (L2.getD v5 R_uii.z).a2⟩ : R_ii)] : List R_ii)) _), ⟨(show mapV (mPut v8 (L2.getD v5 R_uii.z).a1 ((v7.length : Nat) : Int)) = mapV (mPut v8 (L2.getD v5 R_uii.z).a1 ((v7.length : Nat) : Int)) from rfl), ⟨(same_row (E := E_ii) (α := R_ii) _ y6_0 _), trivial⟩⟩⟩⟩⟩⟩⟩
   ·
    exact Mach.ok_none
  ·
   exact Mach.ok_fin (M := law06_RsetRunsM a0 o1 L2 n3 n4 a5 O0 N) (cd := 1000000) (cm := 0) (r := (.r0 (true) : law06_RsetRunsR)) (fu := 4000) (orc := (orcw [(0, true), (1, false)] [] [] [] [])) (live := [0]) (u := vT) (bl := [some (.ro O0)]) (ob := [((decide ((v5 : Int) < (80 : Int))), false), ((decide ((v5 : Int) < (n3 : Int))), true)]) (fun gv => by kernel_rfl) (oN <| oY obs_nil) rfl (by decide) (by rfl) rr ⟨rfl, trivial⟩
 ·
  exact Mach.ok_fin (M := law06_RsetRunsM a0 o1 L2 n3 n4 a5 O0 N) (cd := 1000000) (cm := 0) (r := (.r0 (true) : law06_RsetRunsR)) (fu := 4000) (orc := (orcw [(0, false)] [] [] [] [])) (live := [0]) (u := vT) (bl := [some (.ro O0)]) (ob := [((decide ((v5 : Int) < (n3 : Int))), false)]) (fun gv => by kernel_rfl) (oN obs_nil) rfl (by decide) (by rfl) rr ⟨rfl, trivial⟩

end Ev
end Go.Proofs.Ytbhnaaingkbeiaa
