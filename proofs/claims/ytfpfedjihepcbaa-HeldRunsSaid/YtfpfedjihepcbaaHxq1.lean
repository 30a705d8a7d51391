/- Calls do what the plain functions say. -/
import Derived.Test.YtfpfedjihepcbaaHxa
namespace Go.Proofs.Ytfpfedjihepcbaa
open Go.RowKit
namespace Ev
set_option linter.unusedVariables false
noncomputable def held_stack_api_Seen_topV (b0 : Bool) : held_stack_api_Seen_topR → Value
  | .r0 => Value.tuple #[Value.agg #[Value.int .i64 (0 : Int), Value.int .i64 (0 : Int)], Value.bool false]
noncomputable def held_stack_api_Seen_topPo (b0 : Bool) : held_stack_api_Seen_topR → List (Option AObj)
  | .r0 => [some (.cells [Value.bool b0, Value.slice none 0 0] 56)]

set_option maxRecDepth 100000 in
theorem held_stack_api_Seen_top_fx (b0 : Bool) (N : Nat) : Fx Try.prog ext_Hx Try.f24 [.cells [Value.bool b0, Value.slice none 0 0] 56] #[Value.pointer (some ⟨0, 1, none⟩)] (held_stack_api_Seen_topV b0) (held_stack_api_Seen_topPo b0) (held_stack_api_Seen_top b0 N) := by
  unfold held_stack_api_Seen_top
  exact fx_fin (r := (.r0 : held_stack_api_Seen_topR)) (fu := 4000) (orc := (orcw [] [] [] [] [])) (live := [0]) (u := Value.tuple #[Value.agg #[Value.int .i64 (0 : Int), Value.int .i64 (0 : Int)], Value.bool false]) (bl := [some (.cells [Value.bool b0, Value.slice none 0 0] 56)]) (ob := []) (by kernel_rfl) obs_nil rfl (by decide) (by rfl) ⟨by rfl, by rfl⟩ ⟨⟨rfl, ⟨[], by rfl⟩, by rfl⟩, trivial⟩

set_option maxRecDepth 100000 in
theorem held_stack_api_Seen_top_spec (b0 : Bool) (N : Nat) (r : held_stack_api_Seen_topR) (h : held_stack_api_Seen_top b0 N = some r) : LSpec Try.prog 24 #[Value.pointer (some ⟨0, 1, none⟩)] [.cells [Value.bool b0, Value.slice none 0 0] 56] (held_stack_api_Seen_topV b0 r) (held_stack_api_Seen_topPo b0 r) :=
  fx_spec fit_Hx Try.func24 (by kernel_rfl) (by kernel_rfl) (fun r => by cases r <;> exact le_far _ rfl) (held_stack_api_Seen_top_fx b0 N) h

noncomputable def held_stack_api_Seen_topT0 (b0 : Bool) (k0 : Nat) (n : Nat) : Told := .call [(k0, .cells [Value.bool b0, Value.slice none 0 0] 56)] (Value.tuple #[Value.agg #[Value.int .i64 (0 : Int), Value.int .i64 (0 : Int)], Value.bool false]) [] 0
def held_stack_api_Seen_topP0 (A : Array Value) (b0 : Bool) (k0 : Nat) (n : Nat) : Prop := CallSpec Try.prog 24 A [(k0, .cells [Value.bool b0, Value.slice none 0 0] 56)] (Value.tuple #[Value.agg #[Value.int .i64 (0 : Int), Value.int .i64 (0 : Int)], Value.bool false]) [] n 0

set_option maxRecDepth 100000 in
theorem held_stack_api_Seen_topC0 (A : Array Value) (b0 : Bool) (N : Nat) (h : held_stack_api_Seen_top b0 N = some (.r0)) (k0 : Nat) (n : Nat) (hA : A = #[Value.pointer (some ⟨k0, 1, none⟩)]) (hnd : ([k0] : List Nat).Nodup) (hlt : ∀ k ∈ ([k0] : List Nat), k < n) : held_stack_api_Seen_topP0 A b0 k0 n :=
  cs_args hA (LSpec.callL (show LSpec Try.prog 24 #[Value.pointer (some ⟨0, 1, none⟩)] [.cells [Value.bool b0, Value.slice none 0 0] 56] (Value.tuple #[Value.agg #[Value.int .i64 (0 : Int), Value.int .i64 (0 : Int)], Value.bool false]) [some (.cells [Value.bool b0, Value.slice none 0 0] 56)] from held_stack_api_Seen_top_spec b0 N _ h) [k0] n [] rfl hnd hlt (show 1 ≤ 1 from by decide) (show ∀ j ∈ ([] : List Nat), j < 1 from by decide) (by rfl) ⟨rfl, trivial⟩ (by rfl) ⟨rfl, trivial⟩ ⟨.inr rfl, trivial⟩ rfl rfl rfl (cons_eq (pair_eq rfl rfl) rfl) rfl)

noncomputable def held_stack_api_Seen_popV (b0 : Bool) : held_stack_api_Seen_popR → Value
  | .r0 => Value.tuple #[Value.agg #[Value.int .i64 (0 : Int), Value.int .i64 (0 : Int)], Value.bool false]
noncomputable def held_stack_api_Seen_popPo (b0 : Bool) : held_stack_api_Seen_popR → List (Option AObj)
  | .r0 => [some (.cells [Value.bool b0, Value.slice none 0 0] 56)]

set_option maxRecDepth 100000 in
theorem held_stack_api_Seen_pop_fx (b0 : Bool) (N : Nat) : Fx Try.prog ext_Hx Try.f22 [.cells [Value.bool b0, Value.slice none 0 0] 56] #[Value.pointer (some ⟨0, 1, none⟩)] (held_stack_api_Seen_popV b0) (held_stack_api_Seen_popPo b0) (held_stack_api_Seen_pop b0 N) := by
  unfold held_stack_api_Seen_pop
  refine fx_bind (fun z0 c0 => ?_)
  cases z0 with
  | r0 =>
    exact fx_fin (r := (.r0 : held_stack_api_Seen_popR)) (fu := 4000) (orc := (orcw [] [] [] [] [(0, (held_stack_api_Seen_topT0 (b0)   0 2))])) (live := [0]) (u := Value.tuple #[Value.agg #[Value.int .i64 (0 : Int), Value.int .i64 (0 : Int)], Value.bool false]) (bl := [some (.cells [Value.bool b0, Value.slice none 0 0] 56)]) (ob := [(dP (held_stack_api_Seen_topP0 #[Value.pointer (some ⟨0, 1, none⟩)] (b0)   0 2), true), (dP ([Value.bool b0, Value.slice none 0 0] = [Value.bool b0, Value.slice none 0 0]), true)]) (by kernel_rfl) (obs_cons (dP_of (held_stack_api_Seen_topC0 #[Value.pointer (some ⟨0, 1, none⟩)] (b0)   N c0 0 2 rfl (by decide) (by decide))) (obs_cons (dP_of (cons_eq rfl (cons_eq rfl rfl))) obs_nil)) rfl (by decide) (by rfl) ⟨by rfl, by rfl⟩ ⟨⟨rfl, ⟨[], by rfl⟩, by rfl⟩, trivial⟩

set_option maxRecDepth 100000 in
theorem held_stack_api_Seen_pop_spec (b0 : Bool) (N : Nat) (r : held_stack_api_Seen_popR) (h : held_stack_api_Seen_pop b0 N = some r) : LSpec Try.prog 22 #[Value.pointer (some ⟨0, 1, none⟩)] [.cells [Value.bool b0, Value.slice none 0 0] 56] (held_stack_api_Seen_popV b0 r) (held_stack_api_Seen_popPo b0 r) :=
  fx_spec fit_Hx Try.func22 (by kernel_rfl) (by kernel_rfl) (fun r => by cases r <;> exact le_far _ rfl) (held_stack_api_Seen_pop_fx b0 N) h

noncomputable def held_stack_api_Seen_popT0 (b0 : Bool) (k0 : Nat) (n : Nat) : Told := .call [(k0, .cells [Value.bool b0, Value.slice none 0 0] 56)] (Value.tuple #[Value.agg #[Value.int .i64 (0 : Int), Value.int .i64 (0 : Int)], Value.bool false]) [] 0
def held_stack_api_Seen_popP0 (A : Array Value) (b0 : Bool) (k0 : Nat) (n : Nat) : Prop := CallSpec Try.prog 22 A [(k0, .cells [Value.bool b0, Value.slice none 0 0] 56)] (Value.tuple #[Value.agg #[Value.int .i64 (0 : Int), Value.int .i64 (0 : Int)], Value.bool false]) [] n 0

set_option maxRecDepth 100000 in
theorem held_stack_api_Seen_popC0 (A : Array Value) (b0 : Bool) (N : Nat) (h : held_stack_api_Seen_pop b0 N = some (.r0)) (k0 : Nat) (n : Nat) (hA : A = #[Value.pointer (some ⟨k0, 1, none⟩)]) (hnd : ([k0] : List Nat).Nodup) (hlt : ∀ k ∈ ([k0] : List Nat), k < n) : held_stack_api_Seen_popP0 A b0 k0 n :=
  cs_args hA (LSpec.callL (show LSpec Try.prog 22 #[Value.pointer (some ⟨0, 1, none⟩)] [.cells [Value.bool b0, Value.slice none 0 0] 56] (Value.tuple #[Value.agg #[Value.int .i64 (0 : Int), Value.int .i64 (0 : Int)], Value.bool false]) [some (.cells [Value.bool b0, Value.slice none 0 0] 56)] from held_stack_api_Seen_pop_spec b0 N _ h) [k0] n [] rfl hnd hlt (show 1 ≤ 1 from by decide) (show ∀ j ∈ ([] : List Nat), j < 1 from by decide) (by rfl) ⟨rfl, trivial⟩ (by rfl) ⟨rfl, trivial⟩ ⟨.inr rfl, trivial⟩ rfl rfl rfl (cons_eq (pair_eq rfl rfl) rfl) rfl)

noncomputable def held_Held_TakeV (b0 : Bool) : held_Held_TakeR → Value
  | .r0 => Value.tuple #[Value.agg #[Value.int .i64 (0 : Int), Value.int .i64 (0 : Int)], Value.bool false]
noncomputable def held_Held_TakePo (b0 : Bool) : held_Held_TakeR → List (Option AObj)
  | .r0 => [some (.cells [Value.bool b0, Value.slice none 0 0] 56)]

set_option maxRecDepth 100000 in
theorem held_Held_Take_fx (b0 : Bool) (N : Nat) : Fx Try.prog ext_Hx Try.f8 [.cells [Value.bool b0, Value.slice none 0 0] 56] #[Value.pointer (some ⟨0, 0, none⟩)] (held_Held_TakeV b0) (held_Held_TakePo b0) (held_Held_Take b0 N) := by
  unfold held_Held_Take
  refine fx_ite (fun g0 => ?_) (fun g0 => ?_)
  ·
    refine fx_bind (fun z1 c1 => ?_)
    cases z1 with
    | r0 =>
      exact fx_fin (r := (.r0 : held_Held_TakeR)) (fu := 4000) (orc := (orcw [(1, true)] [] [] [] [(0, (held_stack_api_Seen_popT0 (b0)   0 2))])) (live := [0]) (u := Value.tuple #[Value.agg #[Value.int .i64 (0 : Int), Value.int .i64 (0 : Int)], Value.bool false]) (bl := [some (.cells [Value.bool b0, Value.slice none 0 0] 56)]) (ob := [(dP (held_stack_api_Seen_popP0 #[Value.pointer (some ⟨0, 1, none⟩)] (b0)   0 2), true), (dP ([Value.bool b0, Value.slice none 0 0] = [Value.bool b0, Value.slice none 0 0]), true), (b0, true)]) (by kernel_rfl) (obs_cons (dP_of (held_stack_api_Seen_popC0 #[Value.pointer (some ⟨0, 1, none⟩)] (b0)   N c1 0 2 rfl (by decide) (by decide))) (obs_cons (dP_of (cons_eq rfl (cons_eq rfl rfl))) (obs_cons (by assumption) obs_nil))) rfl (by decide) (by rfl) ⟨by rfl, by rfl⟩ ⟨⟨rfl, ⟨[], by rfl⟩, by rfl⟩, trivial⟩
  ·
    exact fx_fin (r := (.r0 : held_Held_TakeR)) (fu := 4000) (orc := (orcw [(1, false)] [] [] [] [])) (live := [0]) (u := Value.tuple #[Value.agg #[Value.int .i64 (0 : Int), Value.int .i64 (0 : Int)], Value.bool false]) (bl := [some (.cells [Value.bool b0, Value.slice none 0 0] 56)]) (ob := [(b0, false)]) (by kernel_rfl) (obs_cons (Bool.eq_false_iff.2 (by assumption)) obs_nil) rfl (by decide) (by rfl) ⟨by rfl, by rfl⟩ ⟨⟨rfl, ⟨[], by rfl⟩, by rfl⟩, trivial⟩

set_option maxRecDepth 100000 in
theorem held_Held_Take_spec (b0 : Bool) (N : Nat) (r : held_Held_TakeR) (h : held_Held_Take b0 N = some r) : LSpec Try.prog 8 #[Value.pointer (some ⟨0, 0, none⟩)] [.cells [Value.bool b0, Value.slice none 0 0] 56] (held_Held_TakeV b0 r) (held_Held_TakePo b0 r) :=
  fx_spec fit_Hx Try.func8 (by kernel_rfl) (by kernel_rfl) (fun r => by cases r <;> exact le_far _ rfl) (held_Held_Take_fx b0 N) h

noncomputable def held_Held_TakeT0 (b0 : Bool) (k0 : Nat) (n : Nat) : Told := .call [(k0, .cells [Value.bool b0, Value.slice none 0 0] 56)] (Value.tuple #[Value.agg #[Value.int .i64 (0 : Int), Value.int .i64 (0 : Int)], Value.bool false]) [] 0
def held_Held_TakeP0 (A : Array Value) (b0 : Bool) (k0 : Nat) (n : Nat) : Prop := CallSpec Try.prog 8 A [(k0, .cells [Value.bool b0, Value.slice none 0 0] 56)] (Value.tuple #[Value.agg #[Value.int .i64 (0 : Int), Value.int .i64 (0 : Int)], Value.bool false]) [] n 0

set_option maxRecDepth 100000 in
theorem held_Held_TakeC0 (A : Array Value) (b0 : Bool) (N : Nat) (h : held_Held_Take b0 N = some (.r0)) (k0 : Nat) (n : Nat) (hA : A = #[Value.pointer (some ⟨k0, 0, none⟩)]) (hnd : ([k0] : List Nat).Nodup) (hlt : ∀ k ∈ ([k0] : List Nat), k < n) : held_Held_TakeP0 A b0 k0 n :=
  cs_args hA (LSpec.callL (show LSpec Try.prog 8 #[Value.pointer (some ⟨0, 0, none⟩)] [.cells [Value.bool b0, Value.slice none 0 0] 56] (Value.tuple #[Value.agg #[Value.int .i64 (0 : Int), Value.int .i64 (0 : Int)], Value.bool false]) [some (.cells [Value.bool b0, Value.slice none 0 0] 56)] from held_Held_Take_spec b0 N _ h) [k0] n [] rfl hnd hlt (show 1 ≤ 1 from by decide) (show ∀ j ∈ ([] : List Nat), j < 1 from by decide) (by rfl) ⟨rfl, trivial⟩ (by rfl) ⟨rfl, trivial⟩ ⟨.inr rfl, trivial⟩ rfl rfl rfl (cons_eq (pair_eq rfl rfl) rfl) rfl)

noncomputable def ref08_LastV  : ref08_LastR → Value
  | .r0 => Value.tuple #[Value.agg #[Value.int .i64 (0 : Int), Value.int .i64 (0 : Int)], Value.bool false]
noncomputable def ref08_LastPo  : ref08_LastR → List (Option AObj)
  | .r0 => []

set_option maxRecDepth 100000 in
theorem ref08_Last_fx  (N : Nat) : Fx Try.prog ext_Hx Try.f17 [] #[Value.agg #[Value.slice none 0 0]] (ref08_LastV ) (ref08_LastPo ) (ref08_Last  N) := by
  unfold ref08_Last
  exact fx_fin (r := (.r0 : ref08_LastR)) (fu := 4000) (orc := (orcw [] [] [] [] [])) (live := []) (u := Value.tuple #[Value.agg #[Value.int .i64 (0 : Int), Value.int .i64 (0 : Int)], Value.bool false]) (bl := []) (ob := []) (by kernel_rfl) obs_nil rfl (by decide) (by rfl) ⟨by rfl, by rfl⟩ trivial

set_option maxRecDepth 100000 in
theorem ref08_Last_spec  (N : Nat) (r : ref08_LastR) (h : ref08_Last  N = some r) : LSpec Try.prog 17 #[Value.agg #[Value.slice none 0 0]] [] (ref08_LastV  r) (ref08_LastPo  r) :=
  fx_spec fit_Hx Try.func17 (by kernel_rfl) (by kernel_rfl) (fun r => by cases r <;> exact le_far _ rfl) (ref08_Last_fx  N) h

noncomputable def ref08_LastT0  (n : Nat) : Told := .call [] (Value.tuple #[Value.agg #[Value.int .i64 (0 : Int), Value.int .i64 (0 : Int)], Value.bool false]) [] 0
def ref08_LastP0 (A : Array Value)  (n : Nat) : Prop := CallSpec Try.prog 17 A [] (Value.tuple #[Value.agg #[Value.int .i64 (0 : Int), Value.int .i64 (0 : Int)], Value.bool false]) [] n 0

set_option maxRecDepth 100000 in
theorem ref08_LastC0 (A : Array Value)  (N : Nat) (h : ref08_Last  N = some (.r0)) (n : Nat) (hA : A = #[Value.agg #[Value.slice none 0 0]]) (hnd : ([] : List Nat).Nodup) (hlt : ∀ k ∈ ([] : List Nat), k < n) : ref08_LastP0 A   n :=
  cs_args hA (LSpec.callL (show LSpec Try.prog 17 #[Value.agg #[Value.slice none 0 0]] [] (Value.tuple #[Value.agg #[Value.int .i64 (0 : Int), Value.int .i64 (0 : Int)], Value.bool false]) [] from ref08_Last_spec  N _ h) [] n [] rfl hnd hlt (show 0 ≤ 0 from by decide) (show ∀ j ∈ ([] : List Nat), j < 0 from by decide) (by rfl) trivial (by rfl) trivial trivial rfl rfl rfl rfl rfl)

noncomputable def ref08_TakeV  : ref08_TakeR → Value
  | .r0 => Value.tuple #[Value.agg #[Value.slice none 0 0], Value.agg #[Value.int .i64 (0 : Int), Value.int .i64 (0 : Int)], Value.bool false]
noncomputable def ref08_TakePo  : ref08_TakeR → List (Option AObj)
  | .r0 => []

set_option maxRecDepth 100000 in
theorem ref08_Take_fx  (N : Nat) : Fx Try.prog ext_Hx Try.f9 [] #[Value.agg #[Value.slice none 0 0]] (ref08_TakeV ) (ref08_TakePo ) (ref08_Take  N) := by
  unfold ref08_Take
  refine fx_bind (fun z0 c0 => ?_)
  cases z0 with
  | r0 =>
    exact fx_fin (r := (.r0 : ref08_TakeR)) (fu := 4000) (orc := (orcw [] [] [] [] [(0, (ref08_LastT0     3))])) (live := []) (u := Value.tuple #[Value.agg #[Value.slice none 0 0], Value.agg #[Value.int .i64 (0 : Int), Value.int .i64 (0 : Int)], Value.bool false]) (bl := []) (ob := [(dP (ref08_LastP0 #[Value.agg #[Value.slice none 0 0]]     3), true)]) (by kernel_rfl) (obs_cons (dP_of (ref08_LastC0 #[Value.agg #[Value.slice none 0 0]]    N c0  3 rfl (by decide) (by decide))) obs_nil) rfl (by decide) (by rfl) ⟨by rfl, by rfl⟩ trivial

set_option maxRecDepth 100000 in
theorem ref08_Take_spec  (N : Nat) (r : ref08_TakeR) (h : ref08_Take  N = some r) : LSpec Try.prog 9 #[Value.agg #[Value.slice none 0 0]] [] (ref08_TakeV  r) (ref08_TakePo  r) :=
  fx_spec fit_Hx Try.func9 (by kernel_rfl) (by kernel_rfl) (fun r => by cases r <;> exact le_far _ rfl) (ref08_Take_fx  N) h

noncomputable def ref08_TakeT0  (n : Nat) : Told := .call [] (Value.tuple #[Value.agg #[Value.slice none 0 0], Value.agg #[Value.int .i64 (0 : Int), Value.int .i64 (0 : Int)], Value.bool false]) [] 0
def ref08_TakeP0 (A : Array Value)  (n : Nat) : Prop := CallSpec Try.prog 9 A [] (Value.tuple #[Value.agg #[Value.slice none 0 0], Value.agg #[Value.int .i64 (0 : Int), Value.int .i64 (0 : Int)], Value.bool false]) [] n 0

set_option maxRecDepth 100000 in
theorem ref08_TakeC0 (A : Array Value)  (N : Nat) (h : ref08_Take  N = some (.r0)) (n : Nat) (hA : A = #[Value.agg #[Value.slice none 0 0]]) (hnd : ([] : List Nat).Nodup) (hlt : ∀ k ∈ ([] : List Nat), k < n) : ref08_TakeP0 A   n :=
  cs_args hA (LSpec.callL (show LSpec Try.prog 9 #[Value.agg #[Value.slice none 0 0]] [] (Value.tuple #[Value.agg #[Value.slice none 0 0], Value.agg #[Value.int .i64 (0 : Int), Value.int .i64 (0 : Int)], Value.bool false]) [] from ref08_Take_spec  N _ h) [] n [] rfl hnd hlt (show 0 ≤ 0 from by decide) (show ∀ j ∈ ([] : List Nat), j < 0 from by decide) (by rfl) trivial (by rfl) trivial trivial rfl rfl rfl rfl rfl)

noncomputable def held_Held_HasV (a0 : Int) (b1 : Bool) : held_Held_HasR → Value
  | .r0 => Value.tuple #[Value.int .i64 (0 : Int), Value.bool false]
noncomputable def held_Held_HasPo (a0 : Int) (b1 : Bool) : held_Held_HasR → List (Option AObj)
  | .r0 => [some (.cells [Value.bool b1, Value.slice none 0 0] 56)]

def held_Held_HasHd : held_Held_HasX → Nat
  | .h1m0 => 1
noncomputable def held_Held_HasL (a0 : Int) (b1 : Bool) : held_Held_HasX → List (Nat × Value)
  | .h1m0 => [(0, Value.pointer (some ⟨0, 0, none⟩)), (1, Value.int .i64 a0), (6, Value.int .i64 (0 : Int)), (7, Value.bool false), (8, Value.int .i64 (-1 : Int))]
noncomputable def held_Held_HasH (a0 : Int) (b1 : Bool) : held_Held_HasX → List (Option AObj)
  | .h1m0 => [some (.cells [Value.bool b1, Value.slice none 0 0] 56)]

noncomputable def held_Held_HasC : Nat → Code × List Kont
  | 1 => headOf [1, 2, 1, 1, 1, 0, 1, 3] (bodyC Try.f14) []
  | _ => (.skip, [])
def held_Held_HasIL : Nat → Bool
  | 1 => true
  | _ => true
noncomputable def held_Held_HasK (i : Nat) : List Kont := match held_Held_HasIL i with | true => .rnd i :: (held_Held_HasC i).2 | false => (held_Held_HasC i).2

noncomputable def held_Held_HasM (a0 : Int) (b1 : Bool) (N : Nat) : Mach := ⟨Try.f14, [.cells [Value.bool b1, Value.slice none 0 0] 56], held_Held_HasX, held_Held_HasR, held_Held_HasStep a0 b1 N, held_Held_HasHd, held_Held_HasC, held_Held_HasIL, held_Held_HasL a0 b1, held_Held_HasH a0 b1, held_Held_HasV a0 b1, held_Held_HasPo a0 b1⟩

set_option maxRecDepth 100000 in
theorem held_Held_Has_ok1_0 (a0 : Int) (b1 : Bool) (N : Nat) : (held_Held_HasM a0 b1 N).Ok Try.prog ext_Hx (.h1m0 : held_Held_HasX) (held_Held_HasStep a0 b1 N (.h1m0 : held_Held_HasX)) := by
  show (held_Held_HasM a0 b1 N).Ok Try.prog ext_Hx (.h1m0 : held_Held_HasX) (held_Held_Has_h1m0 a0 b1 N)
  unfold held_Held_Has_h1m0
  exact Mach.ok_fin (M := held_Held_HasM a0 b1 N) (cd := 1000000) (cm := 0) (r := (.r0 : held_Held_HasR)) (fu := 4000) (orc := (orcw [] [] [] [] [])) (live := [0]) (u := Value.tuple #[Value.int .i64 (0 : Int), Value.bool false]) (bl := [some (.cells [Value.bool b1, Value.slice none 0 0] 56)]) (ob := []) (fun gv => by kernel_rfl) obs_nil rfl (by decide) (by rfl) ⟨by rfl, by rfl⟩ ⟨⟨rfl, ⟨[], by rfl⟩, by rfl⟩, trivial⟩

set_option maxRecDepth 100000 in
theorem held_Held_Has_en (a0 : Int) (b1 : Bool) (N : Nat) : (held_Held_HasM a0 b1 N).Enter Try.prog ext_Hx #[Value.pointer (some ⟨0, 0, none⟩), Value.int .i64 a0] (held_Held_HasIn a0 b1 N) := by
  unfold held_Held_HasIn
  refine Mach.en_ite (fun g0 => ?_) (fun g0 => ?_)
  ·
    exact Mach.en_head (bK := held_Held_HasC 1) (M := held_Held_HasM a0 b1 N) (cd := 1000000) (cm := 0) (y := (.h1m0 : held_Held_HasX)) (fu := 4000) (orc := (orcw [(1, true)] [] [] [] [])) (live := [0]) (tv := [some (Value.pointer (some ⟨0, 0, none⟩)), some (Value.int .i64 a0), some (Value.int .i64 (0 : Int)), some (Value.bool false), some (Value.int .i64 (-1 : Int))]) (bl := [some (.cells [Value.bool b1, Value.slice none 0 0] 56)]) (ob := [(b1, true)]) rfl rfl (show rids (held_Held_HasC 1).2 = [] from rfl) (by kernel_rfl) (obs_cons (by assumption) obs_nil) rfl (by decide) (by rfl) ⟨⟨by rfl, by rfl⟩, ⟨⟨by rfl, by rfl⟩, ⟨⟨by rfl, by rfl⟩, ⟨⟨by rfl, by rfl⟩, ⟨⟨by rfl, by rfl⟩, trivial⟩⟩⟩⟩⟩ ⟨⟨rfl, ⟨[], by rfl⟩, by rfl⟩, trivial⟩
  ·
    exact Mach.en_fin (M := held_Held_HasM a0 b1 N) (cd := 1000000) (cm := 0) (r := (.r0 : held_Held_HasR)) (fu := 4000) (orc := (orcw [(1, false)] [] [] [] [])) (live := [0]) (u := Value.tuple #[Value.int .i64 (0 : Int), Value.bool false]) (bl := [some (.cells [Value.bool b1, Value.slice none 0 0] 56)]) (ob := [(b1, false)]) (by kernel_rfl) (obs_cons (Bool.eq_false_iff.2 (by assumption)) obs_nil) rfl (by decide) (by rfl) ⟨by rfl, by rfl⟩ ⟨⟨rfl, ⟨[], by rfl⟩, by rfl⟩, trivial⟩

set_option maxRecDepth 100000 in
theorem held_Held_Has_spec (a0 : Int) (b1 : Bool) (N : Nat) (r : held_Held_HasR) (h : held_Held_Has a0 b1 N = some r) : LSpec Try.prog 14 #[Value.pointer (some ⟨0, 0, none⟩), Value.int .i64 a0] [.cells [Value.bool b1, Value.slice none 0 0] 56] (held_Held_HasV a0 b1 r) (held_Held_HasPo a0 b1 r) :=
  Mach.spec fit_Hx (held_Held_HasM a0 b1 N) Try.func14 (by kernel_rfl) (by kernel_rfl) (fun x => by cases x <;> exact le_far _ rfl) (fun r => by cases r <;> exact le_far _ rfl) (fun x => by
    cases x with
    | h1m0 => exact fun _ => (show ¬ (1 ∈ rids (held_Held_HasC 1).2) from by decide +kernel)
    ) (fun x => (show (held_Held_HasM a0 b1 N).Ok Try.prog ext_Hx x (held_Held_HasStep a0 b1 N x) from by
    cases x with
    | h1m0 => exact held_Held_Has_ok1_0 a0 b1 N
    )) (held_Held_Has_en a0 b1 N) (n := N) h

noncomputable def held_Held_HasT0 (a0 : Int) (b1 : Bool) (k0 : Nat) (n : Nat) : Told := .call [(k0, .cells [Value.bool b1, Value.slice none 0 0] 56)] (Value.tuple #[Value.int .i64 (0 : Int), Value.bool false]) [] 0
def held_Held_HasP0 (A : Array Value) (a0 : Int) (b1 : Bool) (k0 : Nat) (n : Nat) : Prop := CallSpec Try.prog 14 A [(k0, .cells [Value.bool b1, Value.slice none 0 0] 56)] (Value.tuple #[Value.int .i64 (0 : Int), Value.bool false]) [] n 0

set_option maxRecDepth 100000 in
theorem held_Held_HasC0 (A : Array Value) (a0 : Int) (b1 : Bool) (N : Nat) (h : held_Held_Has a0 b1 N = some (.r0)) (k0 : Nat) (n : Nat) (hA : A = #[Value.pointer (some ⟨k0, 0, none⟩), Value.int .i64 a0]) (hnd : ([k0] : List Nat).Nodup) (hlt : ∀ k ∈ ([k0] : List Nat), k < n) : held_Held_HasP0 A a0 b1 k0 n :=
  cs_args hA (LSpec.callL (show LSpec Try.prog 14 #[Value.pointer (some ⟨0, 0, none⟩), Value.int .i64 a0] [.cells [Value.bool b1, Value.slice none 0 0] 56] (Value.tuple #[Value.int .i64 (0 : Int), Value.bool false]) [some (.cells [Value.bool b1, Value.slice none 0 0] 56)] from held_Held_Has_spec a0 b1 N _ h) [k0] n [] rfl hnd hlt (show 1 ≤ 1 from by decide) (show ∀ j ∈ ([] : List Nat), j < 1 from by decide) (by rfl) ⟨rfl, trivial⟩ (by rfl) ⟨rfl, trivial⟩ ⟨.inr rfl, trivial⟩ rfl rfl rfl (cons_eq (pair_eq rfl rfl) rfl) rfl)

noncomputable def ref08_HasV (a0 : Int) : ref08_HasR → Value
  | .r0 => Value.tuple #[Value.int .i64 (0 : Int), Value.bool false]
noncomputable def ref08_HasPo (a0 : Int) : ref08_HasR → List (Option AObj)
  | .r0 => []

def ref08_HasHd : ref08_HasX → Nat
  | .h1m0 => 1
noncomputable def ref08_HasL (a0 : Int) : ref08_HasX → List (Nat × Value)
  | .h1m0 => [(1, Value.int .i64 a0), (2, Value.pointer (some ⟨0, 0, none⟩)), (6, Value.int .i64 (0 : Int))]
noncomputable def ref08_HasH (a0 : Int) : ref08_HasX → List (Option AObj)
  | .h1m0 => [some (.cells [Value.slice none 0 0] 27)]

noncomputable def ref08_HasC : Nat → Code × List Kont
  | 1 => headOf [1, 0, 1, 3] (bodyC Try.f15) []
  | _ => (.skip, [])
def ref08_HasIL : Nat → Bool
  | 1 => true
  | _ => true
noncomputable def ref08_HasK (i : Nat) : List Kont := match ref08_HasIL i with | true => .rnd i :: (ref08_HasC i).2 | false => (ref08_HasC i).2

noncomputable def ref08_HasM (a0 : Int) (N : Nat) : Mach := ⟨Try.f15, [], ref08_HasX, ref08_HasR, ref08_HasStep a0 N, ref08_HasHd, ref08_HasC, ref08_HasIL, ref08_HasL a0, ref08_HasH a0, ref08_HasV a0, ref08_HasPo a0⟩

set_option maxRecDepth 100000 in
theorem ref08_Has_ok1_0 (a0 : Int) (N : Nat) : (ref08_HasM a0 N).Ok Try.prog ext_Hx (.h1m0 : ref08_HasX) (ref08_HasStep a0 N (.h1m0 : ref08_HasX)) := by
  show (ref08_HasM a0 N).Ok Try.prog ext_Hx (.h1m0 : ref08_HasX) (ref08_Has_h1m0 a0 N)
  unfold ref08_Has_h1m0
  exact Mach.ok_fin (M := ref08_HasM a0 N) (cd := 1000000) (cm := 0) (r := (.r0 : ref08_HasR)) (fu := 4000) (orc := (orcw [] [] [] [] [])) (live := []) (u := Value.tuple #[Value.int .i64 (0 : Int), Value.bool false]) (bl := []) (ob := []) (fun gv => by kernel_rfl) obs_nil rfl (by decide) (by rfl) ⟨by rfl, by rfl⟩ trivial

set_option maxRecDepth 100000 in
theorem ref08_Has_en (a0 : Int) (N : Nat) : (ref08_HasM a0 N).Enter Try.prog ext_Hx #[Value.agg #[Value.slice none 0 0], Value.int .i64 a0] (ref08_HasIn a0 N) := by
  unfold ref08_HasIn
  exact Mach.en_head (bK := ref08_HasC 1) (M := ref08_HasM a0 N) (cd := 1000000) (cm := 0) (y := (.h1m0 : ref08_HasX)) (fu := 4000) (orc := (orcw [] [] [] [] [])) (live := [0]) (tv := [some (Value.int .i64 a0), some (Value.pointer (some ⟨0, 0, none⟩)), some (Value.int .i64 (0 : Int))]) (bl := [some (.cells [Value.slice none 0 0] 27)]) (ob := []) rfl rfl (show rids (ref08_HasC 1).2 = [] from rfl) (by kernel_rfl) obs_nil rfl (by decide) (by rfl) ⟨⟨by rfl, by rfl⟩, ⟨⟨by rfl, by rfl⟩, ⟨⟨by rfl, by rfl⟩, trivial⟩⟩⟩ ⟨⟨rfl, ⟨[], by rfl⟩, by rfl⟩, trivial⟩

set_option maxRecDepth 100000 in
theorem ref08_Has_spec (a0 : Int) (N : Nat) (r : ref08_HasR) (h : ref08_Has a0 N = some r) : LSpec Try.prog 15 #[Value.agg #[Value.slice none 0 0], Value.int .i64 a0] [] (ref08_HasV a0 r) (ref08_HasPo a0 r) :=
  Mach.spec fit_Hx (ref08_HasM a0 N) Try.func15 (by kernel_rfl) (by kernel_rfl) (fun x => by cases x <;> exact le_far _ rfl) (fun r => by cases r <;> exact le_far _ rfl) (fun x => by
    cases x with
    | h1m0 => exact fun _ => (show ¬ (1 ∈ rids (ref08_HasC 1).2) from by decide +kernel)
    ) (fun x => (show (ref08_HasM a0 N).Ok Try.prog ext_Hx x (ref08_HasStep a0 N x) from by
    cases x with
    | h1m0 => exact ref08_Has_ok1_0 a0 N
    )) (ref08_Has_en a0 N) (n := N) h

noncomputable def ref08_HasT0 (a0 : Int) (n : Nat) : Told := .call [] (Value.tuple #[Value.int .i64 (0 : Int), Value.bool false]) [] 0
def ref08_HasP0 (A : Array Value) (a0 : Int) (n : Nat) : Prop := CallSpec Try.prog 15 A [] (Value.tuple #[Value.int .i64 (0 : Int), Value.bool false]) [] n 0

set_option maxRecDepth 100000 in
theorem ref08_HasC0 (A : Array Value) (a0 : Int) (N : Nat) (h : ref08_Has a0 N = some (.r0)) (n : Nat) (hA : A = #[Value.agg #[Value.slice none 0 0], Value.int .i64 a0]) (hnd : ([] : List Nat).Nodup) (hlt : ∀ k ∈ ([] : List Nat), k < n) : ref08_HasP0 A a0  n :=
  cs_args hA (LSpec.callL (show LSpec Try.prog 15 #[Value.agg #[Value.slice none 0 0], Value.int .i64 a0] [] (Value.tuple #[Value.int .i64 (0 : Int), Value.bool false]) [] from ref08_Has_spec a0 N _ h) [] n [] rfl hnd hlt (show 0 ≤ 0 from by decide) (show ∀ j ∈ ([] : List Nat), j < 0 from by decide) (by rfl) trivial (by rfl) trivial trivial rfl rfl rfl rfl rfl)

noncomputable def held_Held_AddV (a0 : Int) (a1 : Int) (b2 : Bool) : held_Held_AddR → Value
  | .r0 w0 => Value.int .i64 w0
  | .r1 => Value.int .i64 (0 : Int)
noncomputable def held_Held_AddPo (a0 : Int) (a1 : Int) (b2 : Bool) : held_Held_AddR → List (Option AObj)
  | .r0 w0 => [some (.cells [Value.bool b2, Value.slice none 0 0] 56)]
  | .r1 => [some (.cells [Value.bool b2, Value.slice (some ⟨1, 0, none⟩) 1 1] 56), some (.cells (rowV E_ii ([(⟨a0, a1⟩ : R_ii)] : List R_ii)) 32)]

set_option maxRecDepth 100000 in
theorem held_Held_Add_fx (a0 : Int) (a1 : Int) (b2 : Bool) (N : Nat) : Fx Try.prog ext_Hx Try.f12 [.cells [Value.bool b2, Value.slice none 0 0] 56] #[Value.pointer (some ⟨0, 0, none⟩), Value.int .i64 a0, Value.int .i64 a1] (held_Held_AddV a0 a1 b2) (held_Held_AddPo a0 a1 b2) (held_Held_Add a0 a1 b2 N) := by
  unfold held_Held_Add
  refine fx_ite (fun g0 => ?_) (fun g0 => ?_)
  ·
    refine fx_ite (fun g1 => ?_) (fun g1 => ?_)
    ·
      exact fx_fin (r := (.r0 ((1 : Int)) : held_Held_AddR)) (fu := 4000) (orc := (orcw [(1, true), (3, true)] [] [] [] [])) (live := [0]) (u := Value.int .i64 (1 : Int)) (bl := [some (.cells [Value.bool b2, Value.slice none 0 0] 56)]) (ob := [((decide (a0 < (0 : Int))), true), (b2, true)]) (by kernel_rfl) (obs_cons (decide_eq_true (by omega)) (obs_cons (by assumption) obs_nil)) rfl (by decide) (by rfl) ⟨by rfl, by rfl⟩ ⟨⟨rfl, ⟨[], by rfl⟩, by rfl⟩, trivial⟩
    ·
      refine fx_ite (fun g2 => ?_) (fun g2 => ?_)
      ·
        exact fx_fin (r := (.r0 ((1 : Int)) : held_Held_AddR)) (fu := 4000) (orc := (orcw [(1, true), (3, false), (4, true)] [] [] [] [])) (live := [0]) (u := Value.int .i64 (1 : Int)) (bl := [some (.cells [Value.bool b2, Value.slice none 0 0] 56)]) (ob := [((decide (a0 ≥ (1024 : Int))), true), ((decide (a0 < (0 : Int))), false), (b2, true)]) (by kernel_rfl) (obs_cons (decide_eq_true (by omega)) (obs_cons (decide_eq_false (by omega)) (obs_cons (by assumption) obs_nil))) rfl (by decide) (by rfl) ⟨by rfl, by rfl⟩ ⟨⟨rfl, ⟨[], by rfl⟩, by rfl⟩, trivial⟩
      ·
        refine fx_ite (fun g3 => ?_) (fun g3 => ?_)
        ·
          exact fx_fin (r := (.r0 ((1 : Int)) : held_Held_AddR)) (fu := 4000) (orc := (orcw [(1, true), (3, false), (4, false), (5, true)] [] [] [] [])) (live := [0]) (u := Value.int .i64 (1 : Int)) (bl := [some (.cells [Value.bool b2, Value.slice none 0 0] 56)]) (ob := [((decide (a1 < (0 : Int))), true), ((decide (a0 ≥ (1024 : Int))), false), ((decide (a0 < (0 : Int))), false), (b2, true)]) (by kernel_rfl) (obs_cons (decide_eq_true (by omega)) (obs_cons (decide_eq_false (by omega)) (obs_cons (decide_eq_false (by omega)) (obs_cons (by assumption) obs_nil)))) rfl (by decide) (by rfl) ⟨by rfl, by rfl⟩ ⟨⟨rfl, ⟨[], by rfl⟩, by rfl⟩, trivial⟩
        ·
          refine fx_ite (fun g4 => ?_) (fun g4 => ?_)
          ·
            exact fx_fin (r := (.r0 ((1 : Int)) : held_Held_AddR)) (fu := 4000) (orc := (orcw [(1, true), (3, false), (4, false), (5, false), (6, true)] [] [] [] [])) (live := [0]) (u := Value.int .i64 (1 : Int)) (bl := [some (.cells [Value.bool b2, Value.slice none 0 0] 56)]) (ob := [((decide (a1 > (2199023255552 : Int))), true), ((decide (a1 < (0 : Int))), false), ((decide (a0 ≥ (1024 : Int))), false), ((decide (a0 < (0 : Int))), false), (b2, true)]) (by kernel_rfl) (obs_cons (decide_eq_true (by omega)) (obs_cons (decide_eq_false (by omega)) (obs_cons (decide_eq_false (by omega)) (obs_cons (decide_eq_false (by omega)) (obs_cons (by assumption) obs_nil))))) rfl (by decide) (by rfl) ⟨by rfl, by rfl⟩ ⟨⟨rfl, ⟨[], by rfl⟩, by rfl⟩, trivial⟩
          ·
            refine fx_bind (fun z5 c5 => ?_)
            cases z5 with
            | r0 =>
              exact fx_fin (r := (.r1 : held_Held_AddR)) (fu := 4000) (orc := (orcw [(1, true), (3, false), (4, false), (5, false), (6, false)] [] [] [] [(0, (held_Held_HasT0 (a0) (b2)   0 1))])) (live := [0, 3]) (u := Value.int .i64 (0 : Int)) (bl := [some (.cells [Value.bool b2, Value.slice (some ⟨3, 0, none⟩) 1 1] 56), some (.cells [Value.int .i64 a0, Value.int .i64 a1] 32)]) (ob := [(dP (held_Held_HasP0 #[Value.pointer (some ⟨0, 0, none⟩), Value.int .i64 a0] (a0) (b2)   0 1), true), (dP ([Value.bool b2, Value.slice none 0 0] = [Value.bool b2, Value.slice none 0 0]), true), ((decide (a1 > (2199023255552 : Int))), false), ((decide (a1 < (0 : Int))), false), ((decide (a0 ≥ (1024 : Int))), false), ((decide (a0 < (0 : Int))), false), (b2, true)]) (by kernel_rfl) (obs_cons (dP_of (held_Held_HasC0 #[Value.pointer (some ⟨0, 0, none⟩), Value.int .i64 a0] (a0) (b2)   N c5 0 1 rfl (by decide) (by decide))) (obs_cons (dP_of (cons_eq rfl (cons_eq rfl rfl))) (obs_cons (decide_eq_false (by omega)) (obs_cons (decide_eq_false (by omega)) (obs_cons (decide_eq_false (by omega)) (obs_cons (decide_eq_false (by omega)) (obs_cons (by assumption) obs_nil))))))) rfl (by decide) (by rfl) ⟨by rfl, by rfl⟩ ⟨⟨rfl, ⟨[], by rfl⟩, by rfl⟩, ⟨(same_cells (E := E_ii) _ (L := ([(⟨a0, a1⟩ : R_ii)] : List R_ii)) _ (show ([Value.int .i64 a0, Value.int .i64 a1] : List Value) = rowV E_ii ([(⟨a0, a1⟩ : R_ii)] : List R_ii) from rfl)), trivial⟩⟩
  ·
    exact fx_fin (r := (.r0 ((4 : Int)) : held_Held_AddR)) (fu := 4000) (orc := (orcw [(1, false)] [] [] [] [])) (live := [0]) (u := Value.int .i64 (4 : Int)) (bl := [some (.cells [Value.bool b2, Value.slice none 0 0] 56)]) (ob := [(b2, false)]) (by kernel_rfl) (obs_cons (Bool.eq_false_iff.2 (by assumption)) obs_nil) rfl (by decide) (by rfl) ⟨by rfl, by rfl⟩ ⟨⟨rfl, ⟨[], by rfl⟩, by rfl⟩, trivial⟩

set_option maxRecDepth 100000 in
theorem held_Held_Add_spec (a0 : Int) (a1 : Int) (b2 : Bool) (N : Nat) (r : held_Held_AddR) (h : held_Held_Add a0 a1 b2 N = some r) : LSpec Try.prog 12 #[Value.pointer (some ⟨0, 0, none⟩), Value.int .i64 a0, Value.int .i64 a1] [.cells [Value.bool b2, Value.slice none 0 0] 56] (held_Held_AddV a0 a1 b2 r) (held_Held_AddPo a0 a1 b2 r) :=
  fx_spec fit_Hx Try.func12 (by kernel_rfl) (by kernel_rfl) (fun r => by cases r <;> exact le_far _ rfl) (held_Held_Add_fx a0 a1 b2 N) h

noncomputable def held_Held_AddT0 (a0 : Int) (a1 : Int) (b2 : Bool) (w0 : Int) (k0 : Nat) (n : Nat) : Told := .call [(k0, .cells [Value.bool b2, Value.slice none 0 0] 56)] (Value.int .i64 w0) [] 0
def held_Held_AddP0 (A : Array Value) (a0 : Int) (a1 : Int) (b2 : Bool) (w0 : Int) (k0 : Nat) (n : Nat) : Prop := CallSpec Try.prog 12 A [(k0, .cells [Value.bool b2, Value.slice none 0 0] 56)] (Value.int .i64 w0) [] n 0

set_option maxRecDepth 100000 in
theorem held_Held_AddC0 (A : Array Value) (a0 : Int) (a1 : Int) (b2 : Bool) (w0 : Int) (N : Nat) (h : held_Held_Add a0 a1 b2 N = some (.r0 w0)) (k0 : Nat) (n : Nat) (hA : A = #[Value.pointer (some ⟨k0, 0, none⟩), Value.int .i64 a0, Value.int .i64 a1]) (hnd : ([k0] : List Nat).Nodup) (hlt : ∀ k ∈ ([k0] : List Nat), k < n) : held_Held_AddP0 A a0 a1 b2 w0 k0 n :=
  cs_args hA (LSpec.callL (show LSpec Try.prog 12 #[Value.pointer (some ⟨0, 0, none⟩), Value.int .i64 a0, Value.int .i64 a1] [.cells [Value.bool b2, Value.slice none 0 0] 56] (Value.int .i64 w0) [some (.cells [Value.bool b2, Value.slice none 0 0] 56)] from held_Held_Add_spec a0 a1 b2 N _ h) [k0] n [] rfl hnd hlt (show 1 ≤ 1 from by decide) (show ∀ j ∈ ([] : List Nat), j < 1 from by decide) (by rfl) ⟨rfl, trivial⟩ (by rfl) ⟨rfl, trivial⟩ ⟨.inr rfl, trivial⟩ rfl rfl rfl (cons_eq (pair_eq rfl rfl) rfl) rfl)

noncomputable def held_Held_AddT1 (a0 : Int) (a1 : Int) (b2 : Bool) (k0 : Nat) (n : Nat) : Told := .call [(k0, .cells [Value.bool b2, Value.slice none 0 0] 56)] (Value.int .i64 (0 : Int)) [(k0, some (.cells [Value.bool b2, Value.slice (some ⟨n, 0, none⟩) 1 1] 56)), (n, some (.cells (rowV E_ii ([(⟨a0, a1⟩ : R_ii)] : List R_ii)) 32))] 1
def held_Held_AddP1 (A : Array Value) (a0 : Int) (a1 : Int) (b2 : Bool) (k0 : Nat) (n : Nat) : Prop := CallSpec Try.prog 12 A [(k0, .cells [Value.bool b2, Value.slice none 0 0] 56)] (Value.int .i64 (0 : Int)) [(k0, some (.cells [Value.bool b2, Value.slice (some ⟨n, 0, none⟩) 1 1] 56)), (n, some (.cells (rowV E_ii ([(⟨a0, a1⟩ : R_ii)] : List R_ii)) 32))] n 1

set_option maxRecDepth 100000 in
theorem held_Held_AddC1 (A : Array Value) (a0 : Int) (a1 : Int) (b2 : Bool) (N : Nat) (h : held_Held_Add a0 a1 b2 N = some (.r1)) (k0 : Nat) (n : Nat) (hA : A = #[Value.pointer (some ⟨k0, 0, none⟩), Value.int .i64 a0, Value.int .i64 a1]) (hnd : ([k0] : List Nat).Nodup) (hlt : ∀ k ∈ ([k0] : List Nat), k < n) : held_Held_AddP1 A a0 a1 b2 k0 n :=
  cs_args hA (LSpec.callL (show LSpec Try.prog 12 #[Value.pointer (some ⟨0, 0, none⟩), Value.int .i64 a0, Value.int .i64 a1] [.cells [Value.bool b2, Value.slice none 0 0] 56] (Value.int .i64 (0 : Int)) [some (.cells [Value.bool b2, Value.slice (some ⟨1, 0, none⟩) 1 1] 56), some (.cells (rowV E_ii ([(⟨a0, a1⟩ : R_ii)] : List R_ii)) 32)] from held_Held_Add_spec a0 a1 b2 N _ h) [k0] n [0, 1] rfl hnd hlt (show 1 ≤ 2 from by decide) (show ∀ j ∈ ([0, 1] : List Nat), j < 2 from by decide) (by rfl) ⟨rfl, trivial⟩ (by rfl) ⟨rfl, ⟨(under_row _ _ _), trivial⟩⟩ ⟨.inl (by decide), ⟨(by decide), trivial⟩⟩ rfl rfl rfl (cons_eq (pair_eq rfl rfl) rfl) (cons_eq (pair_eq rfl (some_eq rfl)) (cons_eq (pair_eq rfl (some_eq (renO_row _ _ _))) rfl)))

noncomputable def held_stack_api_Seen_top_2V (b0 : Bool) (L1 : List R_ii) : held_stack_api_Seen_top_2R → Value
  | .r0 w1 w2 w3 => Value.tuple #[Value.agg #[Value.int .i64 w1, Value.int .i64 w2], Value.bool w3]
noncomputable def held_stack_api_Seen_top_2Po (b0 : Bool) (L1 : List R_ii) : held_stack_api_Seen_top_2R → List (Option AObj)
  | .r0 w1 w2 w3 => [some (.cells [Value.bool b0, Value.slice (some ⟨1, 0, none⟩) L1.length L1.length] 56), some (.cells (rowV E_ii L1) 32)]

set_option maxRecDepth 100000 in
theorem held_stack_api_Seen_top_2_fx (b0 : Bool) (L1 : List R_ii) (N : Nat) : Fx Try.prog ext_Hx Try.f24 [.cells [Value.bool b0, Value.slice (some ⟨1, 0, none⟩) L1.length L1.length] 56, .cells (rowV E_ii L1) 32] #[Value.pointer (some ⟨0, 1, none⟩)] (held_stack_api_Seen_top_2V b0 L1) (held_stack_api_Seen_top_2Po b0 L1) (held_stack_api_Seen_top_2 b0 L1 N) := by
  unfold held_stack_api_Seen_top_2
  refine fx_ite (fun g0 => ?_) (fun g0 => ?_)
  ·
    exact fx_fin (r := (.r0 ((0 : Int)) ((0 : Int)) (false) : held_stack_api_Seen_top_2R)) (fu := 4000) (orc := (orcw [(0, true)] [] [] [] [])) (live := [0, 1]) (u := Value.tuple #[Value.agg #[Value.int .i64 (0 : Int), Value.int .i64 (0 : Int)], Value.bool false]) (bl := [some (.cells [Value.bool b0, Value.slice (some ⟨1, 0, none⟩) L1.length L1.length] 56), some (.cells (rowV E_ii L1) 32)]) (ob := [((((L1.length : Nat) : Int) == (0 : Int)), true)]) (by kernel_rfl) (obs_cons (beq_iff_eq.2 (by omega)) obs_nil) rfl (by decide) (by rfl) ⟨by rfl, by rfl⟩ ⟨⟨rfl, ⟨[], by rfl⟩, by rfl⟩, ⟨(same_row (E := E_ii) (α := R_ii) _ L1 _), trivial⟩⟩
  ·
    refine fx_ite (fun g1 => ?_) (fun g1 => ?_)
    ·
      exact fx_fin (r := (.r0 ((L1.getD (L1.length - 1) R_ii.z).a0) ((L1.getD (L1.length - 1) R_ii.z).a1) (true) : held_stack_api_Seen_top_2R)) (fu := 4000) (orc := (orcw [(0, false)] [(0, (((L1.length - 1) : Nat) : Int))] [(0, (L1.length - 1))] [(3, [.i (L1.getD (L1.length - 1) R_ii.z).a0, .i (L1.getD (L1.length - 1) R_ii.z).a1])] [])) (live := [0, 1]) (u := Value.tuple #[Value.agg #[Value.int .i64 (L1.getD (L1.length - 1) R_ii.z).a0, Value.int .i64 (L1.getD (L1.length - 1) R_ii.z).a1], Value.bool true]) (bl := [some (.cells [Value.bool b0, Value.slice (some ⟨1, 0, none⟩) L1.length L1.length] 56), some (.cells (rowV E_ii L1) 32)]) (ob := [(sameR (takeN 2 (List.drop (0 + ((L1.length - 1) * 2)) (rowV E_ii L1))) [.i (L1.getD (L1.length - 1) R_ii.z).a0, .i (L1.getD (L1.length - 1) R_ii.z).a1], true), (Nat.blt (L1.length - 1) L1.length, true), ((((L1.length - 1) : Nat) : Int) == Int.ofNat (L1.length - 1), true), ((IntKind.i64.wrap (((L1.length : Nat) : Int) - (1 : Int))) == (((L1.length - 1) : Nat) : Int), true), ((((L1.length : Nat) : Int) == (0 : Int)), false)]) (by kernel_rfl) (obs_cons (rowV_load (E := E_ii) (L := L1) (i := (L1.length - 1)) (q := 0) (by omega) (show (0 + ((L1.length - 1) * 2)) = (L1.length - 1) * 2 + 0 from by omega) (show 0 + 2 ≤ 2 from by decide) rfl rfl) (obs_cons (blt_of (by omega)) (obs_cons (beq_iff_eq.2 (by first | rfl | exact idx_eq (by omega))) (obs_cons (beq_iff_eq.2 ((wrap_i64 (by first | omega | (simp only [List.length_set, List.length_append, List.length_cons, List.length_nil, List.length_replicate, List.length_take, List.length_drop] at * <;> omega))).trans (by first | rfl | omega))) (obs_cons (beq_eq_false_iff_ne.2 (by omega)) obs_nil))))) rfl (by decide) (by rfl) ⟨by rfl, by rfl⟩ ⟨⟨rfl, ⟨[], by rfl⟩, by rfl⟩, ⟨(same_row (E := E_ii) (α := R_ii) _ L1 _), trivial⟩⟩
    ·
      exact fx_none

set_option maxRecDepth 100000 in
theorem held_stack_api_Seen_top_2_spec (b0 : Bool) (L1 : List R_ii) (N : Nat) (r : held_stack_api_Seen_top_2R) (h : held_stack_api_Seen_top_2 b0 L1 N = some r) : LSpec Try.prog 24 #[Value.pointer (some ⟨0, 1, none⟩)] [.cells [Value.bool b0, Value.slice (some ⟨1, 0, none⟩) L1.length L1.length] 56, .cells (rowV E_ii L1) 32] (held_stack_api_Seen_top_2V b0 L1 r) (held_stack_api_Seen_top_2Po b0 L1 r) :=
  fx_spec fit_Hx Try.func24 (by kernel_rfl) (by kernel_rfl) (fun r => by cases r <;> exact le_far _ rfl) (held_stack_api_Seen_top_2_fx b0 L1 N) h

noncomputable def held_stack_api_Seen_top_2T0 (b0 : Bool) (L1 : List R_ii) (w1 : Int) (w2 : Int) (w3 : Bool) (k0 : Nat) (k1 : Nat) (n : Nat) : Told := .call [(k0, .cells [Value.bool b0, Value.slice (some ⟨k1, 0, none⟩) L1.length L1.length] 56), (k1, .cells (rowV E_ii L1) 32)] (Value.tuple #[Value.agg #[Value.int .i64 w1, Value.int .i64 w2], Value.bool w3]) [] 0
def held_stack_api_Seen_top_2P0 (A : Array Value) (b0 : Bool) (L1 : List R_ii) (w1 : Int) (w2 : Int) (w3 : Bool) (k0 : Nat) (k1 : Nat) (n : Nat) : Prop := CallSpec Try.prog 24 A [(k0, .cells [Value.bool b0, Value.slice (some ⟨k1, 0, none⟩) L1.length L1.length] 56), (k1, .cells (rowV E_ii L1) 32)] (Value.tuple #[Value.agg #[Value.int .i64 w1, Value.int .i64 w2], Value.bool w3]) [] n 0

set_option maxRecDepth 100000 in
theorem held_stack_api_Seen_top_2C0 (A : Array Value) (b0 : Bool) (L1 : List R_ii) (w1 : Int) (w2 : Int) (w3 : Bool) (N : Nat) (h : held_stack_api_Seen_top_2 b0 L1 N = some (.r0 w1 w2 w3)) (k0 : Nat) (k1 : Nat) (n : Nat) (hA : A = #[Value.pointer (some ⟨k0, 1, none⟩)]) (hnd : ([k0, k1] : List Nat).Nodup) (hlt : ∀ k ∈ ([k0, k1] : List Nat), k < n) : held_stack_api_Seen_top_2P0 A b0 L1 w1 w2 w3 k0 k1 n :=
  cs_args hA (LSpec.callL (show LSpec Try.prog 24 #[Value.pointer (some ⟨0, 1, none⟩)] [.cells [Value.bool b0, Value.slice (some ⟨1, 0, none⟩) L1.length L1.length] 56, .cells (rowV E_ii L1) 32] (Value.tuple #[Value.agg #[Value.int .i64 w1, Value.int .i64 w2], Value.bool w3]) [some (.cells [Value.bool b0, Value.slice (some ⟨1, 0, none⟩) L1.length L1.length] 56), some (.cells (rowV E_ii L1) 32)] from held_stack_api_Seen_top_2_spec b0 L1 N _ h) [k0, k1] n [] rfl hnd hlt (show 2 ≤ 2 from by decide) (show ∀ j ∈ ([] : List Nat), j < 2 from by decide) (by rfl) ⟨rfl, ⟨(under_row _ _ _), trivial⟩⟩ (by rfl) ⟨rfl, ⟨(under_row _ _ _), trivial⟩⟩ ⟨.inr rfl, ⟨.inr rfl, trivial⟩⟩ rfl rfl rfl (cons_eq (pair_eq rfl rfl) (cons_eq (pair_eq rfl (renO_row _ _ _)) rfl)) rfl)

noncomputable def held_stack_api_Seen_pop_2V (b0 : Bool) (L1 : List R_ii) : held_stack_api_Seen_pop_2R → Value
  | .r0 w0 w1 => Value.tuple #[Value.agg #[Value.int .i64 w0, Value.int .i64 w1], Value.bool true]
  | .r1 w1 w2 => Value.tuple #[Value.agg #[Value.int .i64 w1, Value.int .i64 w2], Value.bool false]
noncomputable def held_stack_api_Seen_pop_2Po (b0 : Bool) (L1 : List R_ii) : held_stack_api_Seen_pop_2R → List (Option AObj)
  | .r0 w0 w1 => [some (.cells [Value.bool b0, Value.slice (some ⟨2, 0, none⟩) (L1.take ((((L1.length : Nat) : Int) - (1 : Int))).toNat).length (L1.take ((((L1.length : Nat) : Int) - (1 : Int))).toNat).length] 56), none, some (.cells (rowV E_ii (L1.take ((((L1.length : Nat) : Int) - (1 : Int))).toNat)) 32)]
  | .r1 w1 w2 => [some (.cells [Value.bool b0, Value.slice (some ⟨1, 0, none⟩) L1.length L1.length] 56), some (.cells (rowV E_ii L1) 32)]

set_option maxRecDepth 100000 in
theorem held_stack_api_Seen_pop_2_fx (b0 : Bool) (L1 : List R_ii) (N : Nat) : Fx Try.prog ext_Hx Try.f22 [.cells [Value.bool b0, Value.slice (some ⟨1, 0, none⟩) L1.length L1.length] 56, .cells (rowV E_ii L1) 32] #[Value.pointer (some ⟨0, 1, none⟩)] (held_stack_api_Seen_pop_2V b0 L1) (held_stack_api_Seen_pop_2Po b0 L1) (held_stack_api_Seen_pop_2 b0 L1 N) := by
  unfold held_stack_api_Seen_pop_2
  refine fx_bind (fun z0 c0 => ?_)
  cases z0 with
  | r0 y0_0 y0_1 y0_2 =>
    refine fx_ite (fun g1 => ?_) (fun g1 => ?_)
    ·
      subst g1
      refine fx_ite (fun g2 => ?_) (fun g2 => ?_)
      ·
        refine fx_ite (fun g3 => ?_) (fun g3 => ?_)
        ·
          exact fx_fin (r := (.r0 (y0_0) (y0_1) : held_stack_api_Seen_pop_2R)) (fu := 4000) (orc := (orcw [] [(0, (((L1.length : Nat) : Int) - (1 : Int)))] [] [] [(0, (held_stack_api_Seen_top_2T0 (b0) (L1)  y0_0 y0_1 true 0 1 3)), (2, .cut ((((L1.length : Nat) : Int) - (1 : Int))).toNat (rowV E_ii (L1.take ((((L1.length : Nat) : Int) - (1 : Int))).toNat)))])) (live := [0, 1, 4]) (u := Value.tuple #[Value.agg #[Value.int .i64 y0_0, Value.int .i64 y0_1], Value.bool true]) (bl := [some (.cells [Value.bool b0, Value.slice (some ⟨4, 0, none⟩) ((((L1.length : Nat) : Int) - (1 : Int))).toNat ((((L1.length : Nat) : Int) - (1 : Int))).toNat] 56), none, some (.cells (rowV E_ii (L1.take ((((L1.length : Nat) : Int) - (1 : Int))).toNat)) 32)]) (ob := [(dP (((((L1.length : Nat) : Int) - (1 : Int))).toNat ≤ L1.length ∧ 0 < 2 ∧ L1.length * 2 ≤ ((rowV E_ii L1) : List Value).length ∧ List.take (((((L1.length : Nat) : Int) - (1 : Int))).toNat * 2) (rowV E_ii L1) = (rowV E_ii (L1.take ((((L1.length : Nat) : Int) - (1 : Int))).toNat))), true), ((((L1.length : Nat) : Int) - (1 : Int)) == Int.ofNat ((((L1.length : Nat) : Int) - (1 : Int))).toNat, true), (dP (0 = 0), true), ((IntKind.i64.wrap (((L1.length : Nat) : Int) - (1 : Int))) == (((L1.length : Nat) : Int) - (1 : Int)), true), (dP (held_stack_api_Seen_top_2P0 #[Value.pointer (some ⟨0, 1, none⟩)] (b0) (L1)  y0_0 y0_1 true 0 1 3), true), (dP ([Value.bool b0, Value.slice (some ⟨1, 0, none⟩) L1.length L1.length] = [Value.bool b0, Value.slice (some ⟨1, 0, none⟩) L1.length L1.length]), true), (dP ((rowV E_ii L1) = (rowV E_ii L1)), true)]) (by kernel_rfl) (obs_cons (dP_of ⟨by first | omega | (simp only [List.length_set, List.length_append, List.length_cons, List.length_nil, List.length_replicate, List.length_take, List.length_drop] at * <;> omega), by decide, rowV_room (E := E_ii) (L := L1) (by omega) (show _ = _ * 2 from rfl), rowV_cut (E := E_ii) (L := L1) (R := (L1.take ((((L1.length : Nat) : Int) - (1 : Int))).toNat)) (show _ = _ * 2 from rfl) rfl⟩) (obs_cons (beq_iff_eq.2 (by first | rfl | exact idx_eq (by omega))) (obs_cons (dP_of rfl) (obs_cons (beq_iff_eq.2 ((wrap_i64 (by first | omega | (simp only [List.length_set, List.length_append, List.length_cons, List.length_nil, List.length_replicate, List.length_take, List.length_drop] at * <;> omega))).trans (by first | rfl | omega))) (obs_cons (dP_of (held_stack_api_Seen_top_2C0 #[Value.pointer (some ⟨0, 1, none⟩)] (b0) (L1)  y0_0 y0_1 true N c0 0 1 3 rfl (by decide) (by decide))) (obs_cons (dP_of (cons_eq rfl (cons_eq rfl rfl))) (obs_cons (dP_of rfl) obs_nil))))))) rfl (by decide) (by rfl) ⟨by rfl, by rfl⟩ ⟨⟨rfl, ⟨[], (show ([Value.bool b0, Value.slice (some ⟨2, 0, none⟩) ((((L1.length : Nat) : Int) - (1 : Int))).toNat ((((L1.length : Nat) : Int) - (1 : Int))).toNat] : List Value) = _ from (cons_eq rfl (cons_eq (slice_eq rfl (by first | rfl | first | omega | (simp only [List.length_set, List.length_append, List.length_cons, List.length_nil, List.length_replicate, List.length_take, List.length_drop] at * <;> omega)) (by first | rfl | first | omega | (simp only [List.length_set, List.length_append, List.length_cons, List.length_nil, List.length_replicate, List.length_take, List.length_drop] at * <;> omega))) rfl)).symm)⟩, by rfl⟩, ⟨(same_row (E := E_ii) (α := R_ii) _ (L1.take ((((L1.length : Nat) : Int) - (1 : Int))).toNat) _), trivial⟩⟩
        ·
          exact fx_none
      ·
        exact fx_none
    ·
      obtain rfl : y0_2 = false := by simpa using g1
      exact fx_fin (r := (.r1 (y0_0) (y0_1) : held_stack_api_Seen_pop_2R)) (fu := 4000) (orc := (orcw [] [] [] [] [(0, (held_stack_api_Seen_top_2T0 (b0) (L1)  y0_0 y0_1 false 0 1 3))])) (live := [0, 1]) (u := Value.tuple #[Value.agg #[Value.int .i64 y0_0, Value.int .i64 y0_1], Value.bool false]) (bl := [some (.cells [Value.bool b0, Value.slice (some ⟨1, 0, none⟩) L1.length L1.length] 56), some (.cells (rowV E_ii L1) 32)]) (ob := [(dP (held_stack_api_Seen_top_2P0 #[Value.pointer (some ⟨0, 1, none⟩)] (b0) (L1)  y0_0 y0_1 false 0 1 3), true), (dP ([Value.bool b0, Value.slice (some ⟨1, 0, none⟩) L1.length L1.length] = [Value.bool b0, Value.slice (some ⟨1, 0, none⟩) L1.length L1.length]), true), (dP ((rowV E_ii L1) = (rowV E_ii L1)), true)]) (by kernel_rfl) (obs_cons (dP_of (held_stack_api_Seen_top_2C0 #[Value.pointer (some ⟨0, 1, none⟩)] (b0) (L1)  y0_0 y0_1 false N c0 0 1 3 rfl (by decide) (by decide))) (obs_cons (dP_of (cons_eq rfl (cons_eq rfl rfl))) (obs_cons (dP_of rfl) obs_nil))) rfl (by decide) (by rfl) ⟨by rfl, by rfl⟩ ⟨⟨rfl, ⟨[], by rfl⟩, by rfl⟩, ⟨(same_row (E := E_ii) (α := R_ii) _ L1 _), trivial⟩⟩

set_option maxRecDepth 100000 in
theorem held_stack_api_Seen_pop_2_spec (b0 : Bool) (L1 : List R_ii) (N : Nat) (r : held_stack_api_Seen_pop_2R) (h : held_stack_api_Seen_pop_2 b0 L1 N = some r) : LSpec Try.prog 22 #[Value.pointer (some ⟨0, 1, none⟩)] [.cells [Value.bool b0, Value.slice (some ⟨1, 0, none⟩) L1.length L1.length] 56, .cells (rowV E_ii L1) 32] (held_stack_api_Seen_pop_2V b0 L1 r) (held_stack_api_Seen_pop_2Po b0 L1 r) :=
  fx_spec fit_Hx Try.func22 (by kernel_rfl) (by kernel_rfl) (fun r => by cases r <;> exact le_far _ rfl) (held_stack_api_Seen_pop_2_fx b0 L1 N) h

noncomputable def held_stack_api_Seen_pop_2T0 (b0 : Bool) (L1 : List R_ii) (w0 : Int) (w1 : Int) (k0 : Nat) (k1 : Nat) (n : Nat) : Told := .call [(k0, .cells [Value.bool b0, Value.slice (some ⟨k1, 0, none⟩) L1.length L1.length] 56), (k1, .cells (rowV E_ii L1) 32)] (Value.tuple #[Value.agg #[Value.int .i64 w0, Value.int .i64 w1], Value.bool true]) [(k0, some (.cells [Value.bool b0, Value.slice (some ⟨n, 0, none⟩) (L1.take ((((L1.length : Nat) : Int) - (1 : Int))).toNat).length (L1.take ((((L1.length : Nat) : Int) - (1 : Int))).toNat).length] 56)), (k1, none), (n, some (.cells (rowV E_ii (L1.take ((((L1.length : Nat) : Int) - (1 : Int))).toNat)) 32))] 1
def held_stack_api_Seen_pop_2P0 (A : Array Value) (b0 : Bool) (L1 : List R_ii) (w0 : Int) (w1 : Int) (k0 : Nat) (k1 : Nat) (n : Nat) : Prop := CallSpec Try.prog 22 A [(k0, .cells [Value.bool b0, Value.slice (some ⟨k1, 0, none⟩) L1.length L1.length] 56), (k1, .cells (rowV E_ii L1) 32)] (Value.tuple #[Value.agg #[Value.int .i64 w0, Value.int .i64 w1], Value.bool true]) [(k0, some (.cells [Value.bool b0, Value.slice (some ⟨n, 0, none⟩) (L1.take ((((L1.length : Nat) : Int) - (1 : Int))).toNat).length (L1.take ((((L1.length : Nat) : Int) - (1 : Int))).toNat).length] 56)), (k1, none), (n, some (.cells (rowV E_ii (L1.take ((((L1.length : Nat) : Int) - (1 : Int))).toNat)) 32))] n 1

set_option maxRecDepth 100000 in
theorem held_stack_api_Seen_pop_2C0 (A : Array Value) (b0 : Bool) (L1 : List R_ii) (w0 : Int) (w1 : Int) (N : Nat) (h : held_stack_api_Seen_pop_2 b0 L1 N = some (.r0 w0 w1)) (k0 : Nat) (k1 : Nat) (n : Nat) (hA : A = #[Value.pointer (some ⟨k0, 1, none⟩)]) (hnd : ([k0, k1] : List Nat).Nodup) (hlt : ∀ k ∈ ([k0, k1] : List Nat), k < n) : held_stack_api_Seen_pop_2P0 A b0 L1 w0 w1 k0 k1 n :=
  cs_args hA (LSpec.callL (show LSpec Try.prog 22 #[Value.pointer (some ⟨0, 1, none⟩)] [.cells [Value.bool b0, Value.slice (some ⟨1, 0, none⟩) L1.length L1.length] 56, .cells (rowV E_ii L1) 32] (Value.tuple #[Value.agg #[Value.int .i64 w0, Value.int .i64 w1], Value.bool true]) [some (.cells [Value.bool b0, Value.slice (some ⟨2, 0, none⟩) (L1.take ((((L1.length : Nat) : Int) - (1 : Int))).toNat).length (L1.take ((((L1.length : Nat) : Int) - (1 : Int))).toNat).length] 56), none, some (.cells (rowV E_ii (L1.take ((((L1.length : Nat) : Int) - (1 : Int))).toNat)) 32)] from held_stack_api_Seen_pop_2_spec b0 L1 N _ h) [k0, k1] n [0, 1, 2] rfl hnd hlt (show 2 ≤ 3 from by decide) (show ∀ j ∈ ([0, 1, 2] : List Nat), j < 3 from by decide) (by rfl) ⟨rfl, ⟨(under_row _ _ _), trivial⟩⟩ (by rfl) ⟨rfl, ⟨(under_row _ _ _), trivial⟩⟩ ⟨.inl (by decide), ⟨.inl (by decide), ⟨(by decide), trivial⟩⟩⟩ rfl rfl rfl (cons_eq (pair_eq rfl rfl) (cons_eq (pair_eq rfl (renO_row _ _ _)) rfl)) (cons_eq (pair_eq rfl (some_eq rfl)) (cons_eq (pair_eq rfl rfl) (cons_eq (pair_eq rfl (some_eq (renO_row _ _ _))) rfl))))

noncomputable def held_stack_api_Seen_pop_2T1 (b0 : Bool) (L1 : List R_ii) (w1 : Int) (w2 : Int) (k0 : Nat) (k1 : Nat) (n : Nat) : Told := .call [(k0, .cells [Value.bool b0, Value.slice (some ⟨k1, 0, none⟩) L1.length L1.length] 56), (k1, .cells (rowV E_ii L1) 32)] (Value.tuple #[Value.agg #[Value.int .i64 w1, Value.int .i64 w2], Value.bool false]) [] 0
def held_stack_api_Seen_pop_2P1 (A : Array Value) (b0 : Bool) (L1 : List R_ii) (w1 : Int) (w2 : Int) (k0 : Nat) (k1 : Nat) (n : Nat) : Prop := CallSpec Try.prog 22 A [(k0, .cells [Value.bool b0, Value.slice (some ⟨k1, 0, none⟩) L1.length L1.length] 56), (k1, .cells (rowV E_ii L1) 32)] (Value.tuple #[Value.agg #[Value.int .i64 w1, Value.int .i64 w2], Value.bool false]) [] n 0

set_option maxRecDepth 100000 in
theorem held_stack_api_Seen_pop_2C1 (A : Array Value) (b0 : Bool) (L1 : List R_ii) (w1 : Int) (w2 : Int) (N : Nat) (h : held_stack_api_Seen_pop_2 b0 L1 N = some (.r1 w1 w2)) (k0 : Nat) (k1 : Nat) (n : Nat) (hA : A = #[Value.pointer (some ⟨k0, 1, none⟩)]) (hnd : ([k0, k1] : List Nat).Nodup) (hlt : ∀ k ∈ ([k0, k1] : List Nat), k < n) : held_stack_api_Seen_pop_2P1 A b0 L1 w1 w2 k0 k1 n :=
  cs_args hA (LSpec.callL (show LSpec Try.prog 22 #[Value.pointer (some ⟨0, 1, none⟩)] [.cells [Value.bool b0, Value.slice (some ⟨1, 0, none⟩) L1.length L1.length] 56, .cells (rowV E_ii L1) 32] (Value.tuple #[Value.agg #[Value.int .i64 w1, Value.int .i64 w2], Value.bool false]) [some (.cells [Value.bool b0, Value.slice (some ⟨1, 0, none⟩) L1.length L1.length] 56), some (.cells (rowV E_ii L1) 32)] from held_stack_api_Seen_pop_2_spec b0 L1 N _ h) [k0, k1] n [] rfl hnd hlt (show 2 ≤ 2 from by decide) (show ∀ j ∈ ([] : List Nat), j < 2 from by decide) (by rfl) ⟨rfl, ⟨(under_row _ _ _), trivial⟩⟩ (by rfl) ⟨rfl, ⟨(under_row _ _ _), trivial⟩⟩ ⟨.inr rfl, ⟨.inr rfl, trivial⟩⟩ rfl rfl rfl (cons_eq (pair_eq rfl rfl) (cons_eq (pair_eq rfl (renO_row _ _ _)) rfl)) rfl)

noncomputable def held_Held_Take_2V (b0 : Bool) (L1 : List R_ii) : held_Held_Take_2R → Value
  | .r0 w0 w1 => Value.tuple #[Value.agg #[Value.int .i64 w0, Value.int .i64 w1], Value.bool true]
  | .r1 w1 w2 => Value.tuple #[Value.agg #[Value.int .i64 w1, Value.int .i64 w2], Value.bool false]
noncomputable def held_Held_Take_2Po (b0 : Bool) (L1 : List R_ii) : held_Held_Take_2R → List (Option AObj)
  | .r0 w0 w1 => [some (.cells [Value.bool b0, Value.slice (some ⟨2, 0, none⟩) (L1.take ((((L1.length : Nat) : Int) - (1 : Int))).toNat).length (L1.take ((((L1.length : Nat) : Int) - (1 : Int))).toNat).length] 56), none, some (.cells (rowV E_ii (L1.take ((((L1.length : Nat) : Int) - (1 : Int))).toNat)) 32)]
  | .r1 w1 w2 => [some (.cells [Value.bool b0, Value.slice (some ⟨1, 0, none⟩) L1.length L1.length] 56), some (.cells (rowV E_ii L1) 32)]

set_option maxRecDepth 100000 in
theorem held_Held_Take_2_fx (b0 : Bool) (L1 : List R_ii) (N : Nat) : Fx Try.prog ext_Hx Try.f8 [.cells [Value.bool b0, Value.slice (some ⟨1, 0, none⟩) L1.length L1.length] 56, .cells (rowV E_ii L1) 32] #[Value.pointer (some ⟨0, 0, none⟩)] (held_Held_Take_2V b0 L1) (held_Held_Take_2Po b0 L1) (held_Held_Take_2 b0 L1 N) := by
  unfold held_Held_Take_2
  refine fx_ite (fun g0 => ?_) (fun g0 => ?_)
  ·
    refine fx_bind (fun z1 c1 => ?_)
    cases z1 with
    | r0 y1_0 y1_1 =>
      exact fx_fin (r := (.r0 (y1_0) (y1_1) : held_Held_Take_2R)) (fu := 4000) (orc := (orcw [(1, true)] [] [] [] [(0, (held_stack_api_Seen_pop_2T0 (b0) (L1)  y1_0 y1_1 0 1 3))])) (live := [0, 1, 3]) (u := Value.tuple #[Value.agg #[Value.int .i64 y1_0, Value.int .i64 y1_1], Value.bool true]) (bl := [some (.cells [Value.bool b0, Value.slice (some ⟨3, 0, none⟩) (L1.take ((((L1.length : Nat) : Int) - (1 : Int))).toNat).length (L1.take ((((L1.length : Nat) : Int) - (1 : Int))).toNat).length] 56), none, some (.cells (rowV E_ii (L1.take ((((L1.length : Nat) : Int) - (1 : Int))).toNat)) 32)]) (ob := [(dP (held_stack_api_Seen_pop_2P0 #[Value.pointer (some ⟨0, 1, none⟩)] (b0) (L1)  y1_0 y1_1 0 1 3), true), (dP ([Value.bool b0, Value.slice (some ⟨1, 0, none⟩) L1.length L1.length] = [Value.bool b0, Value.slice (some ⟨1, 0, none⟩) L1.length L1.length]), true), (dP ((rowV E_ii L1) = (rowV E_ii L1)), true), (b0, true)]) (by kernel_rfl) (obs_cons (dP_of (held_stack_api_Seen_pop_2C0 #[Value.pointer (some ⟨0, 1, none⟩)] (b0) (L1)  y1_0 y1_1 N c1 0 1 3 rfl (by decide) (by decide))) (obs_cons (dP_of (cons_eq rfl (cons_eq rfl rfl))) (obs_cons (dP_of rfl) (obs_cons (by assumption) obs_nil)))) rfl (by decide) (by rfl) ⟨by rfl, by rfl⟩ ⟨⟨rfl, ⟨[], by rfl⟩, by rfl⟩, ⟨(same_row (E := E_ii) (α := R_ii) _ (L1.take ((((L1.length : Nat) : Int) - (1 : Int))).toNat) _), trivial⟩⟩
    | r1 y1_0 y1_1 =>
      exact fx_fin (r := (.r1 (y1_0) (y1_1) : held_Held_Take_2R)) (fu := 4000) (orc := (orcw [(1, true)] [] [] [] [(0, (held_stack_api_Seen_pop_2T1 (b0) (L1)  y1_0 y1_1 0 1 3))])) (live := [0, 1]) (u := Value.tuple #[Value.agg #[Value.int .i64 y1_0, Value.int .i64 y1_1], Value.bool false]) (bl := [some (.cells [Value.bool b0, Value.slice (some ⟨1, 0, none⟩) L1.length L1.length] 56), some (.cells (rowV E_ii L1) 32)]) (ob := [(dP (held_stack_api_Seen_pop_2P1 #[Value.pointer (some ⟨0, 1, none⟩)] (b0) (L1)  y1_0 y1_1 0 1 3), true), (dP ([Value.bool b0, Value.slice (some ⟨1, 0, none⟩) L1.length L1.length] = [Value.bool b0, Value.slice (some ⟨1, 0, none⟩) L1.length L1.length]), true), (dP ((rowV E_ii L1) = (rowV E_ii L1)), true), (b0, true)]) (by kernel_rfl) (obs_cons (dP_of (held_stack_api_Seen_pop_2C1 #[Value.pointer (some ⟨0, 1, none⟩)] (b0) (L1)  y1_0 y1_1 N c1 0 1 3 rfl (by decide) (by decide))) (obs_cons (dP_of (cons_eq rfl (cons_eq rfl rfl))) (obs_cons (dP_of rfl) (obs_cons (by assumption) obs_nil)))) rfl (by decide) (by rfl) ⟨by rfl, by rfl⟩ ⟨⟨rfl, ⟨[], by rfl⟩, by rfl⟩, ⟨(same_row (E := E_ii) (α := R_ii) _ L1 _), trivial⟩⟩
  ·
    exact fx_fin (r := (.r1 ((0 : Int)) ((0 : Int)) : held_Held_Take_2R)) (fu := 4000) (orc := (orcw [(1, false)] [] [] [] [])) (live := [0, 1]) (u := Value.tuple #[Value.agg #[Value.int .i64 (0 : Int), Value.int .i64 (0 : Int)], Value.bool false]) (bl := [some (.cells [Value.bool b0, Value.slice (some ⟨1, 0, none⟩) L1.length L1.length] 56), some (.cells (rowV E_ii L1) 32)]) (ob := [(b0, false)]) (by kernel_rfl) (obs_cons (Bool.eq_false_iff.2 (by assumption)) obs_nil) rfl (by decide) (by rfl) ⟨by rfl, by rfl⟩ ⟨⟨rfl, ⟨[], by rfl⟩, by rfl⟩, ⟨(same_row (E := E_ii) (α := R_ii) _ L1 _), trivial⟩⟩

set_option maxRecDepth 100000 in
theorem held_Held_Take_2_spec (b0 : Bool) (L1 : List R_ii) (N : Nat) (r : held_Held_Take_2R) (h : held_Held_Take_2 b0 L1 N = some r) : LSpec Try.prog 8 #[Value.pointer (some ⟨0, 0, none⟩)] [.cells [Value.bool b0, Value.slice (some ⟨1, 0, none⟩) L1.length L1.length] 56, .cells (rowV E_ii L1) 32] (held_Held_Take_2V b0 L1 r) (held_Held_Take_2Po b0 L1 r) :=
  fx_spec fit_Hx Try.func8 (by kernel_rfl) (by kernel_rfl) (fun r => by cases r <;> exact le_far _ rfl) (held_Held_Take_2_fx b0 L1 N) h

noncomputable def held_Held_Take_2T0 (b0 : Bool) (L1 : List R_ii) (w0 : Int) (w1 : Int) (k0 : Nat) (k1 : Nat) (n : Nat) : Told := .call [(k0, .cells [Value.bool b0, Value.slice (some ⟨k1, 0, none⟩) L1.length L1.length] 56), (k1, .cells (rowV E_ii L1) 32)] (Value.tuple #[Value.agg #[Value.int .i64 w0, Value.int .i64 w1], Value.bool true]) [(k0, some (.cells [Value.bool b0, Value.slice (some ⟨n, 0, none⟩) (L1.take ((((L1.length : Nat) : Int) - (1 : Int))).toNat).length (L1.take ((((L1.length : Nat) : Int) - (1 : Int))).toNat).length] 56)), (k1, none), (n, some (.cells (rowV E_ii (L1.take ((((L1.length : Nat) : Int) - (1 : Int))).toNat)) 32))] 1
def held_Held_Take_2P0 (A : Array Value) (b0 : Bool) (L1 : List R_ii) (w0 : Int) (w1 : Int) (k0 : Nat) (k1 : Nat) (n : Nat) : Prop := CallSpec Try.prog 8 A [(k0, .cells [Value.bool b0, Value.slice (some ⟨k1, 0, none⟩) L1.length L1.length] 56), (k1, .cells (rowV E_ii L1) 32)] (Value.tuple #[Value.agg #[Value.int .i64 w0, Value.int .i64 w1], Value.bool true]) [(k0, some (.cells [Value.bool b0, Value.slice (some ⟨n, 0, none⟩) (L1.take ((((L1.length : Nat) : Int) - (1 : Int))).toNat).length (L1.take ((((L1.length : Nat) : Int) - (1 : Int))).toNat).length] 56)), (k1, none), (n, some (.cells (rowV E_ii (L1.take ((((L1.length : Nat) : Int) - (1 : Int))).toNat)) 32))] n 1

set_option maxRecDepth 100000 in
theorem held_Held_Take_2C0 (A : Array Value) (b0 : Bool) (L1 : List R_ii) (w0 : Int) (w1 : Int) (N : Nat) (h : held_Held_Take_2 b0 L1 N = some (.r0 w0 w1)) (k0 : Nat) (k1 : Nat) (n : Nat) (hA : A = #[Value.pointer (some ⟨k0, 0, none⟩)]) (hnd : ([k0, k1] : List Nat).Nodup) (hlt : ∀ k ∈ ([k0, k1] : List Nat), k < n) : held_Held_Take_2P0 A b0 L1 w0 w1 k0 k1 n :=
  cs_args hA (LSpec.callL (show LSpec Try.prog 8 #[Value.pointer (some ⟨0, 0, none⟩)] [.cells [Value.bool b0, Value.slice (some ⟨1, 0, none⟩) L1.length L1.length] 56, .cells (rowV E_ii L1) 32] (Value.tuple #[Value.agg #[Value.int .i64 w0, Value.int .i64 w1], Value.bool true]) [some (.cells [Value.bool b0, Value.slice (some ⟨2, 0, none⟩) (L1.take ((((L1.length : Nat) : Int) - (1 : Int))).toNat).length (L1.take ((((L1.length : Nat) : Int) - (1 : Int))).toNat).length] 56), none, some (.cells (rowV E_ii (L1.take ((((L1.length : Nat) : Int) - (1 : Int))).toNat)) 32)] from held_Held_Take_2_spec b0 L1 N _ h) [k0, k1] n [0, 1, 2] rfl hnd hlt (show 2 ≤ 3 from by decide) (show ∀ j ∈ ([0, 1, 2] : List Nat), j < 3 from by decide) (by rfl) ⟨rfl, ⟨(under_row _ _ _), trivial⟩⟩ (by rfl) ⟨rfl, ⟨(under_row _ _ _), trivial⟩⟩ ⟨.inl (by decide), ⟨.inl (by decide), ⟨(by decide), trivial⟩⟩⟩ rfl rfl rfl (cons_eq (pair_eq rfl rfl) (cons_eq (pair_eq rfl (renO_row _ _ _)) rfl)) (cons_eq (pair_eq rfl (some_eq rfl)) (cons_eq (pair_eq rfl rfl) (cons_eq (pair_eq rfl (some_eq (renO_row _ _ _))) rfl))))

noncomputable def held_Held_Take_2T1 (b0 : Bool) (L1 : List R_ii) (w1 : Int) (w2 : Int) (k0 : Nat) (k1 : Nat) (n : Nat) : Told := .call [(k0, .cells [Value.bool b0, Value.slice (some ⟨k1, 0, none⟩) L1.length L1.length] 56), (k1, .cells (rowV E_ii L1) 32)] (Value.tuple #[Value.agg #[Value.int .i64 w1, Value.int .i64 w2], Value.bool false]) [] 0
def held_Held_Take_2P1 (A : Array Value) (b0 : Bool) (L1 : List R_ii) (w1 : Int) (w2 : Int) (k0 : Nat) (k1 : Nat) (n : Nat) : Prop := CallSpec Try.prog 8 A [(k0, .cells [Value.bool b0, Value.slice (some ⟨k1, 0, none⟩) L1.length L1.length] 56), (k1, .cells (rowV E_ii L1) 32)] (Value.tuple #[Value.agg #[Value.int .i64 w1, Value.int .i64 w2], Value.bool false]) [] n 0

set_option maxRecDepth 100000 in
theorem held_Held_Take_2C1 (A : Array Value) (b0 : Bool) (L1 : List R_ii) (w1 : Int) (w2 : Int) (N : Nat) (h : held_Held_Take_2 b0 L1 N = some (.r1 w1 w2)) (k0 : Nat) (k1 : Nat) (n : Nat) (hA : A = #[Value.pointer (some ⟨k0, 0, none⟩)]) (hnd : ([k0, k1] : List Nat).Nodup) (hlt : ∀ k ∈ ([k0, k1] : List Nat), k < n) : held_Held_Take_2P1 A b0 L1 w1 w2 k0 k1 n :=
  cs_args hA (LSpec.callL (show LSpec Try.prog 8 #[Value.pointer (some ⟨0, 0, none⟩)] [.cells [Value.bool b0, Value.slice (some ⟨1, 0, none⟩) L1.length L1.length] 56, .cells (rowV E_ii L1) 32] (Value.tuple #[Value.agg #[Value.int .i64 w1, Value.int .i64 w2], Value.bool false]) [some (.cells [Value.bool b0, Value.slice (some ⟨1, 0, none⟩) L1.length L1.length] 56), some (.cells (rowV E_ii L1) 32)] from held_Held_Take_2_spec b0 L1 N _ h) [k0, k1] n [] rfl hnd hlt (show 2 ≤ 2 from by decide) (show ∀ j ∈ ([] : List Nat), j < 2 from by decide) (by rfl) ⟨rfl, ⟨(under_row _ _ _), trivial⟩⟩ (by rfl) ⟨rfl, ⟨(under_row _ _ _), trivial⟩⟩ ⟨.inr rfl, ⟨.inr rfl, trivial⟩⟩ rfl rfl rfl (cons_eq (pair_eq rfl rfl) (cons_eq (pair_eq rfl (renO_row _ _ _)) rfl)) rfl)

noncomputable def ref08_AddV (a0 : Int) (a1 : Int) : ref08_AddR → Value
  | .r0 => Value.tuple #[Value.agg #[Value.slice none 0 0], Value.int .i64 (1 : Int)]
  | .r1 => Value.tuple #[Value.agg #[Value.slice (some ⟨0, 0, none⟩) 1 1], Value.int .i64 (0 : Int)]
noncomputable def ref08_AddPo (a0 : Int) (a1 : Int) : ref08_AddR → List (Option AObj)
  | .r0 => []
  | .r1 => [some (.cells (rowV E_ii ([(⟨a0, a1⟩ : R_ii)] : List R_ii)) 32)]

set_option maxRecDepth 100000 in
theorem ref08_Add_fx (a0 : Int) (a1 : Int) (N : Nat) : Fx Try.prog ext_Hx Try.f13 [] #[Value.agg #[Value.slice none 0 0], Value.int .i64 a0, Value.int .i64 a1] (ref08_AddV a0 a1) (ref08_AddPo a0 a1) (ref08_Add a0 a1 N) := by
  unfold ref08_Add
  refine fx_ite (fun g0 => ?_) (fun g0 => ?_)
  ·
    exact fx_fin (r := (.r0 : ref08_AddR)) (fu := 4000) (orc := (orcw [(0, true)] [] [] [] [])) (live := []) (u := Value.tuple #[Value.agg #[Value.slice none 0 0], Value.int .i64 (1 : Int)]) (bl := []) (ob := [((decide (a0 < (0 : Int))), true)]) (by kernel_rfl) (obs_cons (decide_eq_true (by omega)) obs_nil) rfl (by decide) (by rfl) ⟨by rfl, by rfl⟩ trivial
  ·
    refine fx_ite (fun g1 => ?_) (fun g1 => ?_)
    ·
      exact fx_fin (r := (.r0 : ref08_AddR)) (fu := 4000) (orc := (orcw [(0, false), (1, true)] [] [] [] [])) (live := []) (u := Value.tuple #[Value.agg #[Value.slice none 0 0], Value.int .i64 (1 : Int)]) (bl := []) (ob := [((decide (a0 > (1023 : Int))), true), ((decide (a0 < (0 : Int))), false)]) (by kernel_rfl) (obs_cons (decide_eq_true (by omega)) (obs_cons (decide_eq_false (by omega)) obs_nil)) rfl (by decide) (by rfl) ⟨by rfl, by rfl⟩ trivial
    ·
      refine fx_ite (fun g2 => ?_) (fun g2 => ?_)
      ·
        exact fx_fin (r := (.r0 : ref08_AddR)) (fu := 4000) (orc := (orcw [(0, false), (1, false), (2, true)] [] [] [] [])) (live := []) (u := Value.tuple #[Value.agg #[Value.slice none 0 0], Value.int .i64 (1 : Int)]) (bl := []) (ob := [((decide (a1 < (0 : Int))), true), ((decide (a0 > (1023 : Int))), false), ((decide (a0 < (0 : Int))), false)]) (by kernel_rfl) (obs_cons (decide_eq_true (by omega)) (obs_cons (decide_eq_false (by omega)) (obs_cons (decide_eq_false (by omega)) obs_nil))) rfl (by decide) (by rfl) ⟨by rfl, by rfl⟩ trivial
      ·
        refine fx_ite (fun g3 => ?_) (fun g3 => ?_)
        ·
          exact fx_fin (r := (.r0 : ref08_AddR)) (fu := 4000) (orc := (orcw [(0, false), (1, false), (2, false), (3, true)] [] [] [] [])) (live := []) (u := Value.tuple #[Value.agg #[Value.slice none 0 0], Value.int .i64 (1 : Int)]) (bl := []) (ob := [((decide (a1 > (2199023255552 : Int))), true), ((decide (a1 < (0 : Int))), false), ((decide (a0 > (1023 : Int))), false), ((decide (a0 < (0 : Int))), false)]) (by kernel_rfl) (obs_cons (decide_eq_true (by omega)) (obs_cons (decide_eq_false (by omega)) (obs_cons (decide_eq_false (by omega)) (obs_cons (decide_eq_false (by omega)) obs_nil)))) rfl (by decide) (by rfl) ⟨by rfl, by rfl⟩ trivial
        ·
          refine fx_bind (fun z4 c4 => ?_)
          cases z4 with
          | r0 =>
            exact fx_fin (r := (.r1 : ref08_AddR)) (fu := 4000) (orc := (orcw [(0, false), (1, false), (2, false), (3, false)] [] [] [] [(0, (ref08_HasT0 (a0)    2))])) (live := [3]) (u := Value.tuple #[Value.agg #[Value.slice (some ⟨3, 0, none⟩) 1 1], Value.int .i64 (0 : Int)]) (bl := [some (.cells [Value.int .i64 a0, Value.int .i64 a1] 32)]) (ob := [(dP (ref08_HasP0 #[Value.agg #[Value.slice none 0 0], Value.int .i64 a0] (a0)    2), true), ((decide (a1 > (2199023255552 : Int))), false), ((decide (a1 < (0 : Int))), false), ((decide (a0 > (1023 : Int))), false), ((decide (a0 < (0 : Int))), false)]) (by kernel_rfl) (obs_cons (dP_of (ref08_HasC0 #[Value.agg #[Value.slice none 0 0], Value.int .i64 a0] (a0)   N c4  2 rfl (by decide) (by decide))) (obs_cons (decide_eq_false (by omega)) (obs_cons (decide_eq_false (by omega)) (obs_cons (decide_eq_false (by omega)) (obs_cons (decide_eq_false (by omega)) obs_nil))))) rfl (by decide) (by rfl) ⟨by rfl, by rfl⟩ ⟨(same_cells (E := E_ii) _ (L := ([(⟨a0, a1⟩ : R_ii)] : List R_ii)) _ (show ([Value.int .i64 a0, Value.int .i64 a1] : List Value) = rowV E_ii ([(⟨a0, a1⟩ : R_ii)] : List R_ii) from rfl)), trivial⟩

set_option maxRecDepth 100000 in
theorem ref08_Add_spec (a0 : Int) (a1 : Int) (N : Nat) (r : ref08_AddR) (h : ref08_Add a0 a1 N = some r) : LSpec Try.prog 13 #[Value.agg #[Value.slice none 0 0], Value.int .i64 a0, Value.int .i64 a1] [] (ref08_AddV a0 a1 r) (ref08_AddPo a0 a1 r) :=
  fx_spec fit_Hx Try.func13 (by kernel_rfl) (by kernel_rfl) (fun r => by cases r <;> exact le_far _ rfl) (ref08_Add_fx a0 a1 N) h

noncomputable def ref08_AddT0 (a0 : Int) (a1 : Int) (n : Nat) : Told := .call [] (Value.tuple #[Value.agg #[Value.slice none 0 0], Value.int .i64 (1 : Int)]) [] 0
def ref08_AddP0 (A : Array Value) (a0 : Int) (a1 : Int) (n : Nat) : Prop := CallSpec Try.prog 13 A [] (Value.tuple #[Value.agg #[Value.slice none 0 0], Value.int .i64 (1 : Int)]) [] n 0

set_option maxRecDepth 100000 in
theorem ref08_AddC0 (A : Array Value) (a0 : Int) (a1 : Int) (N : Nat) (h : ref08_Add a0 a1 N = some (.r0)) (n : Nat) (hA : A = #[Value.agg #[Value.slice none 0 0], Value.int .i64 a0, Value.int .i64 a1]) (hnd : ([] : List Nat).Nodup) (hlt : ∀ k ∈ ([] : List Nat), k < n) : ref08_AddP0 A a0 a1  n :=
  cs_args hA (LSpec.callL (show LSpec Try.prog 13 #[Value.agg #[Value.slice none 0 0], Value.int .i64 a0, Value.int .i64 a1] [] (Value.tuple #[Value.agg #[Value.slice none 0 0], Value.int .i64 (1 : Int)]) [] from ref08_Add_spec a0 a1 N _ h) [] n [] rfl hnd hlt (show 0 ≤ 0 from by decide) (show ∀ j ∈ ([] : List Nat), j < 0 from by decide) (by rfl) trivial (by rfl) trivial trivial rfl rfl rfl rfl rfl)

noncomputable def ref08_AddT1 (a0 : Int) (a1 : Int) (n : Nat) : Told := .call [] (Value.tuple #[Value.agg #[Value.slice (some ⟨n, 0, none⟩) 1 1], Value.int .i64 (0 : Int)]) [(n, some (.cells (rowV E_ii ([(⟨a0, a1⟩ : R_ii)] : List R_ii)) 32))] 1
def ref08_AddP1 (A : Array Value) (a0 : Int) (a1 : Int) (n : Nat) : Prop := CallSpec Try.prog 13 A [] (Value.tuple #[Value.agg #[Value.slice (some ⟨n, 0, none⟩) 1 1], Value.int .i64 (0 : Int)]) [(n, some (.cells (rowV E_ii ([(⟨a0, a1⟩ : R_ii)] : List R_ii)) 32))] n 1

set_option maxRecDepth 100000 in
theorem ref08_AddC1 (A : Array Value) (a0 : Int) (a1 : Int) (N : Nat) (h : ref08_Add a0 a1 N = some (.r1)) (n : Nat) (hA : A = #[Value.agg #[Value.slice none 0 0], Value.int .i64 a0, Value.int .i64 a1]) (hnd : ([] : List Nat).Nodup) (hlt : ∀ k ∈ ([] : List Nat), k < n) : ref08_AddP1 A a0 a1  n :=
  cs_args hA (LSpec.callL (show LSpec Try.prog 13 #[Value.agg #[Value.slice none 0 0], Value.int .i64 a0, Value.int .i64 a1] [] (Value.tuple #[Value.agg #[Value.slice (some ⟨0, 0, none⟩) 1 1], Value.int .i64 (0 : Int)]) [some (.cells (rowV E_ii ([(⟨a0, a1⟩ : R_ii)] : List R_ii)) 32)] from ref08_Add_spec a0 a1 N _ h) [] n [0] rfl hnd hlt (show 0 ≤ 1 from by decide) (show ∀ j ∈ ([0] : List Nat), j < 1 from by decide) (by rfl) trivial (by rfl) ⟨(under_row _ _ _), trivial⟩ ⟨(by decide), trivial⟩ rfl rfl rfl rfl (cons_eq (pair_eq rfl (some_eq (renO_row _ _ _))) rfl))

noncomputable def ref08_Has_2V (L0 : List R_ii) (a1 : Int) : ref08_Has_2R → Value
  | .r0 w1 w2 => Value.tuple #[Value.int .i64 w1, Value.bool w2]
noncomputable def ref08_Has_2Po (L0 : List R_ii) (a1 : Int) : ref08_Has_2R → List (Option AObj)
  | .r0 w1 w2 => [some (.cells (rowV E_ii L0) 32)]

def ref08_Has_2Hd : ref08_Has_2X → Nat
  | .h1m0 v2 => 1
noncomputable def ref08_Has_2L (L0 : List R_ii) (a1 : Int) : ref08_Has_2X → List (Nat × Value)
  | .h1m0 v2 => [(1, Value.int .i64 a1), (2, Value.pointer (some ⟨1, 0, none⟩)), (6, Value.int .i64 ((v2 : Nat) : Int))]
noncomputable def ref08_Has_2H (L0 : List R_ii) (a1 : Int) : ref08_Has_2X → List (Option AObj)
  | .h1m0 v2 => [some (.cells (rowV E_ii L0) 32), some (.cells [Value.slice (some ⟨0, 0, none⟩) L0.length L0.length] 27)]

noncomputable def ref08_Has_2C : Nat → Code × List Kont
  | 1 => headOf [1, 0, 1, 3] (bodyC Try.f15) []
  | _ => (.skip, [])
def ref08_Has_2IL : Nat → Bool
  | 1 => true
  | _ => true
noncomputable def ref08_Has_2K (i : Nat) : List Kont := match ref08_Has_2IL i with | true => .rnd i :: (ref08_Has_2C i).2 | false => (ref08_Has_2C i).2

noncomputable def ref08_Has_2M (L0 : List R_ii) (a1 : Int) (N : Nat) : Mach := ⟨Try.f15, [.cells (rowV E_ii L0) 32], ref08_Has_2X, ref08_Has_2R, ref08_Has_2Step L0 a1 N, ref08_Has_2Hd, ref08_Has_2C, ref08_Has_2IL, ref08_Has_2L L0 a1, ref08_Has_2H L0 a1, ref08_Has_2V L0 a1, ref08_Has_2Po L0 a1⟩

set_option maxRecDepth 100000 in
theorem ref08_Has_2_ok1_0 (L0 : List R_ii) (a1 : Int) (v2 : Nat) (N : Nat) : (ref08_Has_2M L0 a1 N).Ok Try.prog ext_Hx (.h1m0 v2 : ref08_Has_2X) (ref08_Has_2Step L0 a1 N (.h1m0 v2 : ref08_Has_2X)) := by
  show (ref08_Has_2M L0 a1 N).Ok Try.prog ext_Hx (.h1m0 v2 : ref08_Has_2X) (ref08_Has_2_h1m0 L0 a1 N v2)
  unfold ref08_Has_2_h1m0
  refine Mach.ok_ite (fun g0 => ?_) (fun g0 => ?_)
  ·
    refine Mach.ok_ite (fun g1 => ?_) (fun g1 => ?_)
    ·
      exact Mach.ok_fin (M := ref08_Has_2M L0 a1 N) (cd := 1000000) (cm := 0) (r := (.r0 ((L0.getD v2 R_ii.z).a1) (true) : ref08_Has_2R)) (fu := 4000) (orc := (orcw [(0, true), (1, true)] [] [(0, v2), (1, v2)] [(2, [.i (L0.getD v2 R_ii.z).a0]), (4, [.i (L0.getD v2 R_ii.z).a1])] [])) (live := [0]) (u := Value.tuple #[Value.int .i64 (L0.getD v2 R_ii.z).a1, Value.bool true]) (bl := [some (.cells (rowV E_ii L0) 32)]) (ob := [(sameR (takeN 1 (List.drop ((0 + (v2 * 2)) + 1) (rowV E_ii L0))) [.i (L0.getD v2 R_ii.z).a1], true), (Nat.blt v2 L0.length, true), (((v2 : Nat) : Int) == Int.ofNat v2, true), (((L0.getD v2 R_ii.z).a0 == a1), true), (sameR (takeN 1 (List.drop ((0 + (v2 * 2)) + 0) (rowV E_ii L0))) [.i (L0.getD v2 R_ii.z).a0], true), (Nat.blt v2 L0.length, true), (((v2 : Nat) : Int) == Int.ofNat v2, true), ((decide (((v2 : Nat) : Int) < ((L0.length : Nat) : Int))), true)]) (fun gv => by kernel_rfl) (obs_cons (rowV_load (E := E_ii) (L := L0) (i := v2) (q := 1) (by omega) (show ((0 + (v2 * 2)) + 1) = v2 * 2 + 1 from by omega) (show 1 + 1 ≤ 2 from by decide) rfl rfl) (obs_cons (blt_of (by omega)) (obs_cons (beq_iff_eq.2 (by first | rfl | exact idx_eq (by omega))) (obs_cons (beq_iff_eq.2 (by omega)) (obs_cons (rowV_load (E := E_ii) (L := L0) (i := v2) (q := 0) (by omega) (show ((0 + (v2 * 2)) + 0) = v2 * 2 + 0 from by omega) (show 0 + 1 ≤ 2 from by decide) rfl rfl) (obs_cons (blt_of (by omega)) (obs_cons (beq_iff_eq.2 (by first | rfl | exact idx_eq (by omega))) (obs_cons (decide_eq_true (by omega)) obs_nil)))))))) rfl (by decide) (by rfl) ⟨by rfl, by rfl⟩ ⟨(same_row (E := E_ii) (α := R_ii) _ L0 _), trivial⟩
    ·
      refine Mach.ok_ite (fun g2 => ?_) (fun g2 => ?_)
      ·
        exact Mach.ok_next (M := ref08_Has_2M L0 a1 N) (cd := 1000000) (cm := 0) (y := (.h1m0 ((v2 + 1)) : ref08_Has_2X)) (fu := 4000) (orc := (orcw [(0, true), (1, false)] [(0, (((v2 + 1) : Nat) : Int))] [(0, v2)] [(2, [.i (L0.getD v2 R_ii.z).a0])] [])) (live := [0, 1]) (tv := fun _ => [some (Value.int .i64 a1), some (Value.pointer (some ⟨1, 0, none⟩)), some (Value.int .i64 (((v2 + 1) : Nat) : Int))]) (bl := [some (.cells (rowV E_ii L0) 32), some (.cells [Value.slice (some ⟨0, 0, none⟩) L0.length L0.length] 27)]) (ob := [((IntKind.i64.wrap (((v2 : Nat) : Int) + (1 : Int))) == (((v2 + 1) : Nat) : Int), true), (((L0.getD v2 R_ii.z).a0 == a1), false), (sameR (takeN 1 (List.drop ((0 + (v2 * 2)) + 0) (rowV E_ii L0))) [.i (L0.getD v2 R_ii.z).a0], true), (Nat.blt v2 L0.length, true), (((v2 : Nat) : Int) == Int.ofNat v2, true), ((decide (((v2 : Nat) : Int) < ((L0.length : Nat) : Int))), true)]) rfl (show 1 ∈ rids (ref08_Has_2K 1) from by decide +kernel) (fun gv => by kernel_rfl) (obs_cons (beq_iff_eq.2 ((wrap_i64 (by first | omega | (simp only [List.length_set, List.length_append, List.length_cons, List.length_nil, List.length_replicate, List.length_take, List.length_drop] at * <;> omega))).trans (by first | rfl | omega))) (obs_cons (beq_eq_false_iff_ne.2 (by omega)) (obs_cons (rowV_load (E := E_ii) (L := L0) (i := v2) (q := 0) (by omega) (show ((0 + (v2 * 2)) + 0) = v2 * 2 + 0 from by omega) (show 0 + 1 ≤ 2 from by decide) rfl rfl) (obs_cons (blt_of (by omega)) (obs_cons (beq_iff_eq.2 (by first | rfl | exact idx_eq (by omega))) (obs_cons (decide_eq_true (by omega)) obs_nil)))))) rfl (by decide) (by rfl) (fun _ => ⟨⟨by rfl, by rfl⟩, ⟨⟨by rfl, by rfl⟩, ⟨⟨by rfl, by rfl⟩, trivial⟩⟩⟩) ⟨(same_row (E := E_ii) (α := R_ii) _ L0 _), ⟨⟨rfl, ⟨[], by rfl⟩, by rfl⟩, trivial⟩⟩
      ·
        exact Mach.ok_none
  ·
    exact Mach.ok_fin (M := ref08_Has_2M L0 a1 N) (cd := 1000000) (cm := 0) (r := (.r0 ((0 : Int)) (false) : ref08_Has_2R)) (fu := 4000) (orc := (orcw [(0, false)] [] [] [] [])) (live := [0]) (u := Value.tuple #[Value.int .i64 (0 : Int), Value.bool false]) (bl := [some (.cells (rowV E_ii L0) 32)]) (ob := [((decide (((v2 : Nat) : Int) < ((L0.length : Nat) : Int))), false)]) (fun gv => by kernel_rfl) (obs_cons (decide_eq_false (by omega)) obs_nil) rfl (by decide) (by rfl) ⟨by rfl, by rfl⟩ ⟨(same_row (E := E_ii) (α := R_ii) _ L0 _), trivial⟩

set_option maxRecDepth 100000 in
theorem ref08_Has_2_en (L0 : List R_ii) (a1 : Int) (N : Nat) : (ref08_Has_2M L0 a1 N).Enter Try.prog ext_Hx #[Value.agg #[Value.slice (some ⟨0, 0, none⟩) L0.length L0.length], Value.int .i64 a1] (ref08_Has_2In L0 a1 N) := by
  unfold ref08_Has_2In
  exact Mach.en_head (bK := ref08_Has_2C 1) (M := ref08_Has_2M L0 a1 N) (cd := 1000000) (cm := 0) (y := (.h1m0 (0) : ref08_Has_2X)) (fu := 4000) (orc := (orcw [] [] [] [] [])) (live := [0, 1]) (tv := [some (Value.int .i64 a1), some (Value.pointer (some ⟨1, 0, none⟩)), some (Value.int .i64 (0 : Int))]) (bl := [some (.cells (rowV E_ii L0) 32), some (.cells [Value.slice (some ⟨0, 0, none⟩) L0.length L0.length] 27)]) (ob := []) rfl rfl (show rids (ref08_Has_2C 1).2 = [] from rfl) (by kernel_rfl) obs_nil rfl (by decide) (by rfl) ⟨⟨by rfl, by rfl⟩, ⟨⟨by rfl, by rfl⟩, ⟨⟨Eq.trans (show (Value.int .i64 ((0 : Nat) : Int) : Value) = Value.int .i64 (0 : Int) from (congrArg (Value.int .i64) (by first | rfl | omega))) (by rfl), by rfl⟩, trivial⟩⟩⟩ ⟨(same_row (E := E_ii) (α := R_ii) _ L0 _), ⟨⟨rfl, ⟨[], by rfl⟩, by rfl⟩, trivial⟩⟩

set_option maxRecDepth 100000 in
theorem ref08_Has_2_spec (L0 : List R_ii) (a1 : Int) (N : Nat) (r : ref08_Has_2R) (h : ref08_Has_2 L0 a1 N = some r) : LSpec Try.prog 15 #[Value.agg #[Value.slice (some ⟨0, 0, none⟩) L0.length L0.length], Value.int .i64 a1] [.cells (rowV E_ii L0) 32] (ref08_Has_2V L0 a1 r) (ref08_Has_2Po L0 a1 r) :=
  Mach.spec fit_Hx (ref08_Has_2M L0 a1 N) Try.func15 (by kernel_rfl) (by kernel_rfl) (fun x => by cases x <;> exact le_far _ rfl) (fun r => by cases r <;> exact le_far _ rfl) (fun x => by
    cases x with
    | h1m0 _ => exact fun _ => (show ¬ (1 ∈ rids (ref08_Has_2C 1).2) from by decide +kernel)
    ) (fun x => (show (ref08_Has_2M L0 a1 N).Ok Try.prog ext_Hx x (ref08_Has_2Step L0 a1 N x) from by
    cases x with
    | h1m0 v2 => exact ref08_Has_2_ok1_0 L0 a1 v2 N
    )) (ref08_Has_2_en L0 a1 N) (n := N) h

noncomputable def ref08_Has_2T0 (L0 : List R_ii) (a1 : Int) (w1 : Int) (w2 : Bool) (k0 : Nat) (n : Nat) : Told := .call [(k0, .cells (rowV E_ii L0) 32)] (Value.tuple #[Value.int .i64 w1, Value.bool w2]) [] 0
def ref08_Has_2P0 (A : Array Value) (L0 : List R_ii) (a1 : Int) (w1 : Int) (w2 : Bool) (k0 : Nat) (n : Nat) : Prop := CallSpec Try.prog 15 A [(k0, .cells (rowV E_ii L0) 32)] (Value.tuple #[Value.int .i64 w1, Value.bool w2]) [] n 0

set_option maxRecDepth 100000 in
theorem ref08_Has_2C0 (A : Array Value) (L0 : List R_ii) (a1 : Int) (w1 : Int) (w2 : Bool) (N : Nat) (h : ref08_Has_2 L0 a1 N = some (.r0 w1 w2)) (k0 : Nat) (n : Nat) (hA : A = #[Value.agg #[Value.slice (some ⟨k0, 0, none⟩) L0.length L0.length], Value.int .i64 a1]) (hnd : ([k0] : List Nat).Nodup) (hlt : ∀ k ∈ ([k0] : List Nat), k < n) : ref08_Has_2P0 A L0 a1 w1 w2 k0 n :=
  cs_args hA (LSpec.callL (show LSpec Try.prog 15 #[Value.agg #[Value.slice (some ⟨0, 0, none⟩) L0.length L0.length], Value.int .i64 a1] [.cells (rowV E_ii L0) 32] (Value.tuple #[Value.int .i64 w1, Value.bool w2]) [some (.cells (rowV E_ii L0) 32)] from ref08_Has_2_spec L0 a1 N _ h) [k0] n [] rfl hnd hlt (show 1 ≤ 1 from by decide) (show ∀ j ∈ ([] : List Nat), j < 1 from by decide) (by rfl) ⟨(under_row _ _ _), trivial⟩ (by rfl) ⟨(under_row _ _ _), trivial⟩ ⟨.inr rfl, trivial⟩ rfl rfl rfl (cons_eq (pair_eq rfl (renO_row _ _ _)) rfl) rfl)

noncomputable def held_Held_Has_2V (a0 : Int) (b1 : Bool) (L2 : List R_ii) : held_Held_Has_2R → Value
  | .r0 w1 w2 => Value.tuple #[Value.int .i64 w1, Value.bool w2]
noncomputable def held_Held_Has_2Po (a0 : Int) (b1 : Bool) (L2 : List R_ii) : held_Held_Has_2R → List (Option AObj)
  | .r0 w1 w2 => [some (.cells [Value.bool b1, Value.slice (some ⟨1, 0, none⟩) L2.length L2.length] 56), some (.cells (rowV E_ii L2) 32)]

def held_Held_Has_2Hd : held_Held_Has_2X → Nat
  | .h1m0 v4 => 1
noncomputable def held_Held_Has_2L (a0 : Int) (b1 : Bool) (L2 : List R_ii) : held_Held_Has_2X → List (Nat × Value)
  | .h1m0 v4 => [(0, Value.pointer (some ⟨0, 0, none⟩)), (1, Value.int .i64 a0), (6, Value.int .i64 (0 : Int)), (7, Value.bool false), (8, Value.int .i64 v4)]
noncomputable def held_Held_Has_2H (a0 : Int) (b1 : Bool) (L2 : List R_ii) : held_Held_Has_2X → List (Option AObj)
  | .h1m0 v4 => [some (.cells [Value.bool b1, Value.slice (some ⟨1, 0, none⟩) L2.length L2.length] 56), some (.cells (rowV E_ii L2) 32)]

noncomputable def held_Held_Has_2C : Nat → Code × List Kont
  | 1 => headOf [1, 2, 1, 1, 1, 0, 1, 3] (bodyC Try.f14) []
  | _ => (.skip, [])
def held_Held_Has_2IL : Nat → Bool
  | 1 => true
  | _ => true
noncomputable def held_Held_Has_2K (i : Nat) : List Kont := match held_Held_Has_2IL i with | true => .rnd i :: (held_Held_Has_2C i).2 | false => (held_Held_Has_2C i).2

noncomputable def held_Held_Has_2M (a0 : Int) (b1 : Bool) (L2 : List R_ii) (N : Nat) : Mach := ⟨Try.f14, [.cells [Value.bool b1, Value.slice (some ⟨1, 0, none⟩) L2.length L2.length] 56, .cells (rowV E_ii L2) 32], held_Held_Has_2X, held_Held_Has_2R, held_Held_Has_2Step a0 b1 L2 N, held_Held_Has_2Hd, held_Held_Has_2C, held_Held_Has_2IL, held_Held_Has_2L a0 b1 L2, held_Held_Has_2H a0 b1 L2, held_Held_Has_2V a0 b1 L2, held_Held_Has_2Po a0 b1 L2⟩

set_option maxRecDepth 100000 in
theorem held_Held_Has_2_ok1_0 (a0 : Int) (b1 : Bool) (L2 : List R_ii) (v4 : Int) (N : Nat) : (held_Held_Has_2M a0 b1 L2 N).Ok Try.prog ext_Hx (.h1m0 v4 : held_Held_Has_2X) (held_Held_Has_2Step a0 b1 L2 N (.h1m0 v4 : held_Held_Has_2X)) := by
  show (held_Held_Has_2M a0 b1 L2 N).Ok Try.prog ext_Hx (.h1m0 v4 : held_Held_Has_2X) (held_Held_Has_2_h1m0 a0 b1 L2 N v4)
  unfold held_Held_Has_2_h1m0
  refine Mach.ok_ite (fun g0 => ?_) (fun g0 => ?_)
  ·
    refine Mach.ok_ite (fun g1 => ?_) (fun g1 => ?_)
    ·
      refine Mach.ok_ite (fun g2 => ?_) (fun g2 => ?_)
      ·
        exact Mach.ok_fin (M := held_Held_Has_2M a0 b1 L2 N) (cd := 1000000) (cm := 0) (r := (.r0 ((L2.getD (v4).toNat R_ii.z).a1) (true) : held_Held_Has_2R)) (fu := 4000) (orc := (orcw [(0, true), (1, true)] [] [(0, (v4).toNat)] [(1, [.i (L2.getD (v4).toNat R_ii.z).a0, .i (L2.getD (v4).toNat R_ii.z).a1])] [])) (live := [0, 1]) (u := Value.tuple #[Value.int .i64 (L2.getD (v4).toNat R_ii.z).a1, Value.bool true]) (bl := [some (.cells [Value.bool b1, Value.slice (some ⟨1, 0, none⟩) L2.length L2.length] 56), some (.cells (rowV E_ii L2) 32)]) (ob := [(((L2.getD (v4).toNat R_ii.z).a0 == a0), true), (sameR (takeN 2 (List.drop (0 + ((v4).toNat * 2)) (rowV E_ii L2))) [.i (L2.getD (v4).toNat R_ii.z).a0, .i (L2.getD (v4).toNat R_ii.z).a1], true), (Nat.blt (v4).toNat L2.length, true), (v4 == Int.ofNat (v4).toNat, true), ((decide (v4 ≥ (0 : Int))), true)]) (fun gv => by kernel_rfl) (obs_cons (beq_iff_eq.2 (by omega)) (obs_cons (rowV_load (E := E_ii) (L := L2) (i := (v4).toNat) (q := 0) (by omega) (show (0 + ((v4).toNat * 2)) = (v4).toNat * 2 + 0 from by omega) (show 0 + 2 ≤ 2 from by decide) rfl rfl) (obs_cons (blt_of (by omega)) (obs_cons (beq_iff_eq.2 (by first | rfl | exact idx_eq (by omega))) (obs_cons (decide_eq_true (by omega)) obs_nil))))) rfl (by decide) (by rfl) ⟨by rfl, by rfl⟩ ⟨⟨rfl, ⟨[], by rfl⟩, by rfl⟩, ⟨(same_row (E := E_ii) (α := R_ii) _ L2 _), trivial⟩⟩
      ·
        exact Mach.ok_next (M := held_Held_Has_2M a0 b1 L2 N) (cd := 1000000) (cm := 0) (y := (.h1m0 ((IntKind.i64.wrap (v4 - (1 : Int)))) : held_Held_Has_2X)) (fu := 4000) (orc := (orcw [(0, true), (1, false)] [] [(0, (v4).toNat)] [(1, [.i (L2.getD (v4).toNat R_ii.z).a0, .i (L2.getD (v4).toNat R_ii.z).a1])] [])) (live := [0, 1]) (tv := fun _ => [some (Value.pointer (some ⟨0, 0, none⟩)), some (Value.int .i64 a0), some (Value.int .i64 (0 : Int)), some (Value.bool false), some (Value.int .i64 (IntKind.i64.wrap (v4 - (1 : Int))))]) (bl := [some (.cells [Value.bool b1, Value.slice (some ⟨1, 0, none⟩) L2.length L2.length] 56), some (.cells (rowV E_ii L2) 32)]) (ob := [(((L2.getD (v4).toNat R_ii.z).a0 == a0), false), (sameR (takeN 2 (List.drop (0 + ((v4).toNat * 2)) (rowV E_ii L2))) [.i (L2.getD (v4).toNat R_ii.z).a0, .i (L2.getD (v4).toNat R_ii.z).a1], true), (Nat.blt (v4).toNat L2.length, true), (v4 == Int.ofNat (v4).toNat, true), ((decide (v4 ≥ (0 : Int))), true)]) rfl (show 1 ∈ rids (held_Held_Has_2K 1) from by decide +kernel) (fun gv => by kernel_rfl) (obs_cons (beq_eq_false_iff_ne.2 (by omega)) (obs_cons (rowV_load (E := E_ii) (L := L2) (i := (v4).toNat) (q := 0) (by omega) (show (0 + ((v4).toNat * 2)) = (v4).toNat * 2 + 0 from by omega) (show 0 + 2 ≤ 2 from by decide) rfl rfl) (obs_cons (blt_of (by omega)) (obs_cons (beq_iff_eq.2 (by first | rfl | exact idx_eq (by omega))) (obs_cons (decide_eq_true (by omega)) obs_nil))))) rfl (by decide) (by rfl) (fun _ => ⟨⟨by rfl, by rfl⟩, ⟨⟨by rfl, by rfl⟩, ⟨⟨by rfl, by rfl⟩, ⟨⟨by rfl, by rfl⟩, ⟨⟨by rfl, by rfl⟩, trivial⟩⟩⟩⟩⟩) ⟨⟨rfl, ⟨[], by rfl⟩, by rfl⟩, ⟨(same_row (E := E_ii) (α := R_ii) _ L2 _), trivial⟩⟩
    ·
      exact Mach.ok_none
  ·
    exact Mach.ok_fin (M := held_Held_Has_2M a0 b1 L2 N) (cd := 1000000) (cm := 0) (r := (.r0 ((0 : Int)) (false) : held_Held_Has_2R)) (fu := 4000) (orc := (orcw [(0, false)] [] [] [] [])) (live := [0, 1]) (u := Value.tuple #[Value.int .i64 (0 : Int), Value.bool false]) (bl := [some (.cells [Value.bool b1, Value.slice (some ⟨1, 0, none⟩) L2.length L2.length] 56), some (.cells (rowV E_ii L2) 32)]) (ob := [((decide (v4 ≥ (0 : Int))), false)]) (fun gv => by kernel_rfl) (obs_cons (decide_eq_false (by omega)) obs_nil) rfl (by decide) (by rfl) ⟨by rfl, by rfl⟩ ⟨⟨rfl, ⟨[], by rfl⟩, by rfl⟩, ⟨(same_row (E := E_ii) (α := R_ii) _ L2 _), trivial⟩⟩

set_option maxRecDepth 100000 in
theorem held_Held_Has_2_en (a0 : Int) (b1 : Bool) (L2 : List R_ii) (N : Nat) : (held_Held_Has_2M a0 b1 L2 N).Enter Try.prog ext_Hx #[Value.pointer (some ⟨0, 0, none⟩), Value.int .i64 a0] (held_Held_Has_2In a0 b1 L2 N) := by
  unfold held_Held_Has_2In
  refine Mach.en_ite (fun g0 => ?_) (fun g0 => ?_)
  ·
    refine Mach.en_ite (fun g1 => ?_) (fun g1 => ?_)
    ·
      exact Mach.en_head (bK := held_Held_Has_2C 1) (M := held_Held_Has_2M a0 b1 L2 N) (cd := 1000000) (cm := 0) (y := (.h1m0 ((((L2.length : Nat) : Int) - (1 : Int))) : held_Held_Has_2X)) (fu := 4000) (orc := (orcw [(1, true)] [(0, (((L2.length : Nat) : Int) - (1 : Int)))] [] [] [])) (live := [0, 1]) (tv := [some (Value.pointer (some ⟨0, 0, none⟩)), some (Value.int .i64 a0), some (Value.int .i64 (0 : Int)), some (Value.bool false), some (Value.int .i64 (((L2.length : Nat) : Int) - (1 : Int)))]) (bl := [some (.cells [Value.bool b1, Value.slice (some ⟨1, 0, none⟩) L2.length L2.length] 56), some (.cells (rowV E_ii L2) 32)]) (ob := [((IntKind.i64.wrap (((L2.length : Nat) : Int) - (1 : Int))) == (((L2.length : Nat) : Int) - (1 : Int)), true), (b1, true)]) rfl rfl (show rids (held_Held_Has_2C 1).2 = [] from rfl) (by kernel_rfl) (obs_cons (beq_iff_eq.2 ((wrap_i64 (by first | omega | (simp only [List.length_set, List.length_append, List.length_cons, List.length_nil, List.length_replicate, List.length_take, List.length_drop] at * <;> omega))).trans (by first | rfl | omega))) (obs_cons (by assumption) obs_nil)) rfl (by decide) (by rfl) ⟨⟨by rfl, by rfl⟩, ⟨⟨by rfl, by rfl⟩, ⟨⟨by rfl, by rfl⟩, ⟨⟨by rfl, by rfl⟩, ⟨⟨by rfl, by rfl⟩, trivial⟩⟩⟩⟩⟩ ⟨⟨rfl, ⟨[], by rfl⟩, by rfl⟩, ⟨(same_row (E := E_ii) (α := R_ii) _ L2 _), trivial⟩⟩
    ·
      exact Mach.en_none
  ·
    exact Mach.en_fin (M := held_Held_Has_2M a0 b1 L2 N) (cd := 1000000) (cm := 0) (r := (.r0 ((0 : Int)) (false) : held_Held_Has_2R)) (fu := 4000) (orc := (orcw [(1, false)] [] [] [] [])) (live := [0, 1]) (u := Value.tuple #[Value.int .i64 (0 : Int), Value.bool false]) (bl := [some (.cells [Value.bool b1, Value.slice (some ⟨1, 0, none⟩) L2.length L2.length] 56), some (.cells (rowV E_ii L2) 32)]) (ob := [(b1, false)]) (by kernel_rfl) (obs_cons (Bool.eq_false_iff.2 (by assumption)) obs_nil) rfl (by decide) (by rfl) ⟨by rfl, by rfl⟩ ⟨⟨rfl, ⟨[], by rfl⟩, by rfl⟩, ⟨(same_row (E := E_ii) (α := R_ii) _ L2 _), trivial⟩⟩

set_option maxRecDepth 100000 in
theorem held_Held_Has_2_spec (a0 : Int) (b1 : Bool) (L2 : List R_ii) (N : Nat) (r : held_Held_Has_2R) (h : held_Held_Has_2 a0 b1 L2 N = some r) : LSpec Try.prog 14 #[Value.pointer (some ⟨0, 0, none⟩), Value.int .i64 a0] [.cells [Value.bool b1, Value.slice (some ⟨1, 0, none⟩) L2.length L2.length] 56, .cells (rowV E_ii L2) 32] (held_Held_Has_2V a0 b1 L2 r) (held_Held_Has_2Po a0 b1 L2 r) :=
  Mach.spec fit_Hx (held_Held_Has_2M a0 b1 L2 N) Try.func14 (by kernel_rfl) (by kernel_rfl) (fun x => by cases x <;> exact le_far _ rfl) (fun r => by cases r <;> exact le_far _ rfl) (fun x => by
    cases x with
    | h1m0 _ => exact fun _ => (show ¬ (1 ∈ rids (held_Held_Has_2C 1).2) from by decide +kernel)
    ) (fun x => (show (held_Held_Has_2M a0 b1 L2 N).Ok Try.prog ext_Hx x (held_Held_Has_2Step a0 b1 L2 N x) from by
    cases x with
    | h1m0 v4 => exact held_Held_Has_2_ok1_0 a0 b1 L2 v4 N
    )) (held_Held_Has_2_en a0 b1 L2 N) (n := N) h

noncomputable def held_Held_Has_2T0 (a0 : Int) (b1 : Bool) (L2 : List R_ii) (w1 : Int) (w2 : Bool) (k0 : Nat) (k1 : Nat) (n : Nat) : Told := .call [(k0, .cells [Value.bool b1, Value.slice (some ⟨k1, 0, none⟩) L2.length L2.length] 56), (k1, .cells (rowV E_ii L2) 32)] (Value.tuple #[Value.int .i64 w1, Value.bool w2]) [] 0
def held_Held_Has_2P0 (A : Array Value) (a0 : Int) (b1 : Bool) (L2 : List R_ii) (w1 : Int) (w2 : Bool) (k0 : Nat) (k1 : Nat) (n : Nat) : Prop := CallSpec Try.prog 14 A [(k0, .cells [Value.bool b1, Value.slice (some ⟨k1, 0, none⟩) L2.length L2.length] 56), (k1, .cells (rowV E_ii L2) 32)] (Value.tuple #[Value.int .i64 w1, Value.bool w2]) [] n 0

set_option maxRecDepth 100000 in
theorem held_Held_Has_2C0 (A : Array Value) (a0 : Int) (b1 : Bool) (L2 : List R_ii) (w1 : Int) (w2 : Bool) (N : Nat) (h : held_Held_Has_2 a0 b1 L2 N = some (.r0 w1 w2)) (k0 : Nat) (k1 : Nat) (n : Nat) (hA : A = #[Value.pointer (some ⟨k0, 0, none⟩), Value.int .i64 a0]) (hnd : ([k0, k1] : List Nat).Nodup) (hlt : ∀ k ∈ ([k0, k1] : List Nat), k < n) : held_Held_Has_2P0 A a0 b1 L2 w1 w2 k0 k1 n :=
  cs_args hA (LSpec.callL (show LSpec Try.prog 14 #[Value.pointer (some ⟨0, 0, none⟩), Value.int .i64 a0] [.cells [Value.bool b1, Value.slice (some ⟨1, 0, none⟩) L2.length L2.length] 56, .cells (rowV E_ii L2) 32] (Value.tuple #[Value.int .i64 w1, Value.bool w2]) [some (.cells [Value.bool b1, Value.slice (some ⟨1, 0, none⟩) L2.length L2.length] 56), some (.cells (rowV E_ii L2) 32)] from held_Held_Has_2_spec a0 b1 L2 N _ h) [k0, k1] n [] rfl hnd hlt (show 2 ≤ 2 from by decide) (show ∀ j ∈ ([] : List Nat), j < 2 from by decide) (by rfl) ⟨rfl, ⟨(under_row _ _ _), trivial⟩⟩ (by rfl) ⟨rfl, ⟨(under_row _ _ _), trivial⟩⟩ ⟨.inr rfl, ⟨.inr rfl, trivial⟩⟩ rfl rfl rfl (cons_eq (pair_eq rfl rfl) (cons_eq (pair_eq rfl (renO_row _ _ _)) rfl)) rfl)

noncomputable def held_Held_LastV (b0 : Bool) : held_Held_LastR → Value
  | .r0 => Value.tuple #[Value.agg #[Value.int .i64 (0 : Int), Value.int .i64 (0 : Int)], Value.bool false]
noncomputable def held_Held_LastPo (b0 : Bool) : held_Held_LastR → List (Option AObj)
  | .r0 => [some (.cells [Value.bool b0, Value.slice none 0 0] 56)]

set_option maxRecDepth 100000 in
theorem held_Held_Last_fx (b0 : Bool) (N : Nat) : Fx Try.prog ext_Hx Try.f16 [.cells [Value.bool b0, Value.slice none 0 0] 56] #[Value.pointer (some ⟨0, 0, none⟩)] (held_Held_LastV b0) (held_Held_LastPo b0) (held_Held_Last b0 N) := by
  unfold held_Held_Last
  refine fx_ite (fun g0 => ?_) (fun g0 => ?_)
  ·
    refine fx_bind (fun z1 c1 => ?_)
    cases z1 with
    | r0 =>
      exact fx_fin (r := (.r0 : held_Held_LastR)) (fu := 4000) (orc := (orcw [(1, true)] [] [] [] [(0, (held_stack_api_Seen_topT0 (b0)   0 2))])) (live := [0]) (u := Value.tuple #[Value.agg #[Value.int .i64 (0 : Int), Value.int .i64 (0 : Int)], Value.bool false]) (bl := [some (.cells [Value.bool b0, Value.slice none 0 0] 56)]) (ob := [(dP (held_stack_api_Seen_topP0 #[Value.pointer (some ⟨0, 1, none⟩)] (b0)   0 2), true), (dP ([Value.bool b0, Value.slice none 0 0] = [Value.bool b0, Value.slice none 0 0]), true), (b0, true)]) (by kernel_rfl) (obs_cons (dP_of (held_stack_api_Seen_topC0 #[Value.pointer (some ⟨0, 1, none⟩)] (b0)   N c1 0 2 rfl (by decide) (by decide))) (obs_cons (dP_of (cons_eq rfl (cons_eq rfl rfl))) (obs_cons (by assumption) obs_nil))) rfl (by decide) (by rfl) ⟨by rfl, by rfl⟩ ⟨⟨rfl, ⟨[], by rfl⟩, by rfl⟩, trivial⟩
  ·
    exact fx_fin (r := (.r0 : held_Held_LastR)) (fu := 4000) (orc := (orcw [(1, false)] [] [] [] [])) (live := [0]) (u := Value.tuple #[Value.agg #[Value.int .i64 (0 : Int), Value.int .i64 (0 : Int)], Value.bool false]) (bl := [some (.cells [Value.bool b0, Value.slice none 0 0] 56)]) (ob := [(b0, false)]) (by kernel_rfl) (obs_cons (Bool.eq_false_iff.2 (by assumption)) obs_nil) rfl (by decide) (by rfl) ⟨by rfl, by rfl⟩ ⟨⟨rfl, ⟨[], by rfl⟩, by rfl⟩, trivial⟩

set_option maxRecDepth 100000 in
theorem held_Held_Last_spec (b0 : Bool) (N : Nat) (r : held_Held_LastR) (h : held_Held_Last b0 N = some r) : LSpec Try.prog 16 #[Value.pointer (some ⟨0, 0, none⟩)] [.cells [Value.bool b0, Value.slice none 0 0] 56] (held_Held_LastV b0 r) (held_Held_LastPo b0 r) :=
  fx_spec fit_Hx Try.func16 (by kernel_rfl) (by kernel_rfl) (fun r => by cases r <;> exact le_far _ rfl) (held_Held_Last_fx b0 N) h

noncomputable def held_Held_LastT0 (b0 : Bool) (k0 : Nat) (n : Nat) : Told := .call [(k0, .cells [Value.bool b0, Value.slice none 0 0] 56)] (Value.tuple #[Value.agg #[Value.int .i64 (0 : Int), Value.int .i64 (0 : Int)], Value.bool false]) [] 0
def held_Held_LastP0 (A : Array Value) (b0 : Bool) (k0 : Nat) (n : Nat) : Prop := CallSpec Try.prog 16 A [(k0, .cells [Value.bool b0, Value.slice none 0 0] 56)] (Value.tuple #[Value.agg #[Value.int .i64 (0 : Int), Value.int .i64 (0 : Int)], Value.bool false]) [] n 0

set_option maxRecDepth 100000 in
theorem held_Held_LastC0 (A : Array Value) (b0 : Bool) (N : Nat) (h : held_Held_Last b0 N = some (.r0)) (k0 : Nat) (n : Nat) (hA : A = #[Value.pointer (some ⟨k0, 0, none⟩)]) (hnd : ([k0] : List Nat).Nodup) (hlt : ∀ k ∈ ([k0] : List Nat), k < n) : held_Held_LastP0 A b0 k0 n :=
  cs_args hA (LSpec.callL (show LSpec Try.prog 16 #[Value.pointer (some ⟨0, 0, none⟩)] [.cells [Value.bool b0, Value.slice none 0 0] 56] (Value.tuple #[Value.agg #[Value.int .i64 (0 : Int), Value.int .i64 (0 : Int)], Value.bool false]) [some (.cells [Value.bool b0, Value.slice none 0 0] 56)] from held_Held_Last_spec b0 N _ h) [k0] n [] rfl hnd hlt (show 1 ≤ 1 from by decide) (show ∀ j ∈ ([] : List Nat), j < 1 from by decide) (by rfl) ⟨rfl, trivial⟩ (by rfl) ⟨rfl, trivial⟩ ⟨.inr rfl, trivial⟩ rfl rfl rfl (cons_eq (pair_eq rfl rfl) rfl) rfl)

noncomputable def held_Held_Last_2V (b0 : Bool) (L1 : List R_ii) : held_Held_Last_2R → Value
  | .r0 w1 w2 w3 => Value.tuple #[Value.agg #[Value.int .i64 w1, Value.int .i64 w2], Value.bool w3]
noncomputable def held_Held_Last_2Po (b0 : Bool) (L1 : List R_ii) : held_Held_Last_2R → List (Option AObj)
  | .r0 w1 w2 w3 => [some (.cells [Value.bool b0, Value.slice (some ⟨1, 0, none⟩) L1.length L1.length] 56), some (.cells (rowV E_ii L1) 32)]

set_option maxRecDepth 100000 in
theorem held_Held_Last_2_fx (b0 : Bool) (L1 : List R_ii) (N : Nat) : Fx Try.prog ext_Hx Try.f16 [.cells [Value.bool b0, Value.slice (some ⟨1, 0, none⟩) L1.length L1.length] 56, .cells (rowV E_ii L1) 32] #[Value.pointer (some ⟨0, 0, none⟩)] (held_Held_Last_2V b0 L1) (held_Held_Last_2Po b0 L1) (held_Held_Last_2 b0 L1 N) := by
  unfold held_Held_Last_2
  refine fx_ite (fun g0 => ?_) (fun g0 => ?_)
  ·
    refine fx_bind (fun z1 c1 => ?_)
    cases z1 with
    | r0 y1_0 y1_1 y1_2 =>
      exact fx_fin (r := (.r0 (y1_0) (y1_1) (y1_2) : held_Held_Last_2R)) (fu := 4000) (orc := (orcw [(1, true)] [] [] [] [(0, (held_stack_api_Seen_top_2T0 (b0) (L1)  y1_0 y1_1 y1_2 0 1 3))])) (live := [0, 1]) (u := Value.tuple #[Value.agg #[Value.int .i64 y1_0, Value.int .i64 y1_1], Value.bool y1_2]) (bl := [some (.cells [Value.bool b0, Value.slice (some ⟨1, 0, none⟩) L1.length L1.length] 56), some (.cells (rowV E_ii L1) 32)]) (ob := [(dP (held_stack_api_Seen_top_2P0 #[Value.pointer (some ⟨0, 1, none⟩)] (b0) (L1)  y1_0 y1_1 y1_2 0 1 3), true), (dP ([Value.bool b0, Value.slice (some ⟨1, 0, none⟩) L1.length L1.length] = [Value.bool b0, Value.slice (some ⟨1, 0, none⟩) L1.length L1.length]), true), (dP ((rowV E_ii L1) = (rowV E_ii L1)), true), (b0, true)]) (by kernel_rfl) (obs_cons (dP_of (held_stack_api_Seen_top_2C0 #[Value.pointer (some ⟨0, 1, none⟩)] (b0) (L1)  y1_0 y1_1 y1_2 N c1 0 1 3 rfl (by decide) (by decide))) (obs_cons (dP_of (cons_eq rfl (cons_eq rfl rfl))) (obs_cons (dP_of rfl) (obs_cons (by assumption) obs_nil)))) rfl (by decide) (by rfl) ⟨by rfl, by rfl⟩ ⟨⟨rfl, ⟨[], by rfl⟩, by rfl⟩, ⟨(same_row (E := E_ii) (α := R_ii) _ L1 _), trivial⟩⟩
  ·
    exact fx_fin (r := (.r0 ((0 : Int)) ((0 : Int)) (false) : held_Held_Last_2R)) (fu := 4000) (orc := (orcw [(1, false)] [] [] [] [])) (live := [0, 1]) (u := Value.tuple #[Value.agg #[Value.int .i64 (0 : Int), Value.int .i64 (0 : Int)], Value.bool false]) (bl := [some (.cells [Value.bool b0, Value.slice (some ⟨1, 0, none⟩) L1.length L1.length] 56), some (.cells (rowV E_ii L1) 32)]) (ob := [(b0, false)]) (by kernel_rfl) (obs_cons (Bool.eq_false_iff.2 (by assumption)) obs_nil) rfl (by decide) (by rfl) ⟨by rfl, by rfl⟩ ⟨⟨rfl, ⟨[], by rfl⟩, by rfl⟩, ⟨(same_row (E := E_ii) (α := R_ii) _ L1 _), trivial⟩⟩

set_option maxRecDepth 100000 in
theorem held_Held_Last_2_spec (b0 : Bool) (L1 : List R_ii) (N : Nat) (r : held_Held_Last_2R) (h : held_Held_Last_2 b0 L1 N = some r) : LSpec Try.prog 16 #[Value.pointer (some ⟨0, 0, none⟩)] [.cells [Value.bool b0, Value.slice (some ⟨1, 0, none⟩) L1.length L1.length] 56, .cells (rowV E_ii L1) 32] (held_Held_Last_2V b0 L1 r) (held_Held_Last_2Po b0 L1 r) :=
  fx_spec fit_Hx Try.func16 (by kernel_rfl) (by kernel_rfl) (fun r => by cases r <;> exact le_far _ rfl) (held_Held_Last_2_fx b0 L1 N) h

noncomputable def held_Held_Last_2T0 (b0 : Bool) (L1 : List R_ii) (w1 : Int) (w2 : Int) (w3 : Bool) (k0 : Nat) (k1 : Nat) (n : Nat) : Told := .call [(k0, .cells [Value.bool b0, Value.slice (some ⟨k1, 0, none⟩) L1.length L1.length] 56), (k1, .cells (rowV E_ii L1) 32)] (Value.tuple #[Value.agg #[Value.int .i64 w1, Value.int .i64 w2], Value.bool w3]) [] 0
def held_Held_Last_2P0 (A : Array Value) (b0 : Bool) (L1 : List R_ii) (w1 : Int) (w2 : Int) (w3 : Bool) (k0 : Nat) (k1 : Nat) (n : Nat) : Prop := CallSpec Try.prog 16 A [(k0, .cells [Value.bool b0, Value.slice (some ⟨k1, 0, none⟩) L1.length L1.length] 56), (k1, .cells (rowV E_ii L1) 32)] (Value.tuple #[Value.agg #[Value.int .i64 w1, Value.int .i64 w2], Value.bool w3]) [] n 0

set_option maxRecDepth 100000 in
theorem held_Held_Last_2C0 (A : Array Value) (b0 : Bool) (L1 : List R_ii) (w1 : Int) (w2 : Int) (w3 : Bool) (N : Nat) (h : held_Held_Last_2 b0 L1 N = some (.r0 w1 w2 w3)) (k0 : Nat) (k1 : Nat) (n : Nat) (hA : A = #[Value.pointer (some ⟨k0, 0, none⟩)]) (hnd : ([k0, k1] : List Nat).Nodup) (hlt : ∀ k ∈ ([k0, k1] : List Nat), k < n) : held_Held_Last_2P0 A b0 L1 w1 w2 w3 k0 k1 n :=
  cs_args hA (LSpec.callL (show LSpec Try.prog 16 #[Value.pointer (some ⟨0, 0, none⟩)] [.cells [Value.bool b0, Value.slice (some ⟨1, 0, none⟩) L1.length L1.length] 56, .cells (rowV E_ii L1) 32] (Value.tuple #[Value.agg #[Value.int .i64 w1, Value.int .i64 w2], Value.bool w3]) [some (.cells [Value.bool b0, Value.slice (some ⟨1, 0, none⟩) L1.length L1.length] 56), some (.cells (rowV E_ii L1) 32)] from held_Held_Last_2_spec b0 L1 N _ h) [k0, k1] n [] rfl hnd hlt (show 2 ≤ 2 from by decide) (show ∀ j ∈ ([] : List Nat), j < 2 from by decide) (by rfl) ⟨rfl, ⟨(under_row _ _ _), trivial⟩⟩ (by rfl) ⟨rfl, ⟨(under_row _ _ _), trivial⟩⟩ ⟨.inr rfl, ⟨.inr rfl, trivial⟩⟩ rfl rfl rfl (cons_eq (pair_eq rfl rfl) (cons_eq (pair_eq rfl (renO_row _ _ _)) rfl)) rfl)

noncomputable def ref06_SameV  : ref06_SameR → Value
  | .r0 => Value.bool true
noncomputable def ref06_SamePo  : ref06_SameR → List (Option AObj)
  | .r0 => []

def ref06_SameHd : ref06_SameX → Nat
  | .h1m0 => 1
noncomputable def ref06_SameL  : ref06_SameX → List (Nat × Value)
  | .h1m0 => [(0, Value.slice none 0 0), (1, Value.slice none 0 0), (5, Value.int .i64 (0 : Int))]
noncomputable def ref06_SameH  : ref06_SameX → List (Option AObj)
  | .h1m0 => []

noncomputable def ref06_SameC : Nat → Code × List Kont
  | 1 => headOf [1, 1, 0, 1, 3] (bodyC Try.f19) []
  | _ => (.skip, [])
def ref06_SameIL : Nat → Bool
  | 1 => true
  | _ => true
noncomputable def ref06_SameK (i : Nat) : List Kont := match ref06_SameIL i with | true => .rnd i :: (ref06_SameC i).2 | false => (ref06_SameC i).2

noncomputable def ref06_SameM  (N : Nat) : Mach := ⟨Try.f19, [], ref06_SameX, ref06_SameR, ref06_SameStep  N, ref06_SameHd, ref06_SameC, ref06_SameIL, ref06_SameL , ref06_SameH , ref06_SameV , ref06_SamePo ⟩

set_option maxRecDepth 100000 in
theorem ref06_Same_ok1_0  (N : Nat) : (ref06_SameM  N).Ok Try.prog ext_Hx (.h1m0 : ref06_SameX) (ref06_SameStep  N (.h1m0 : ref06_SameX)) := by
  show (ref06_SameM  N).Ok Try.prog ext_Hx (.h1m0 : ref06_SameX) (ref06_Same_h1m0  N)
  unfold ref06_Same_h1m0
  exact Mach.ok_fin (M := ref06_SameM  N) (cd := 1000000) (cm := 0) (r := (.r0 : ref06_SameR)) (fu := 4000) (orc := (orcw [] [] [] [] [])) (live := []) (u := Value.bool true) (bl := []) (ob := []) (fun gv => by kernel_rfl) obs_nil rfl (by decide) (by rfl) ⟨by rfl, by rfl⟩ trivial

set_option maxRecDepth 100000 in
theorem ref06_Same_en  (N : Nat) : (ref06_SameM  N).Enter Try.prog ext_Hx #[Value.slice none 0 0, Value.slice none 0 0] (ref06_SameIn  N) := by
  unfold ref06_SameIn
  exact Mach.en_head (bK := ref06_SameC 1) (M := ref06_SameM  N) (cd := 1000000) (cm := 0) (y := (.h1m0 : ref06_SameX)) (fu := 4000) (orc := (orcw [] [] [] [] [])) (live := []) (tv := [some (Value.slice none 0 0), some (Value.slice none 0 0), some (Value.int .i64 (0 : Int))]) (bl := []) (ob := []) rfl rfl (show rids (ref06_SameC 1).2 = [] from rfl) (by kernel_rfl) obs_nil rfl (by decide) (by rfl) ⟨⟨by rfl, by rfl⟩, ⟨⟨by rfl, by rfl⟩, ⟨⟨by rfl, by rfl⟩, trivial⟩⟩⟩ trivial

set_option maxRecDepth 100000 in
theorem ref06_Same_spec  (N : Nat) (r : ref06_SameR) (h : ref06_Same  N = some r) : LSpec Try.prog 19 #[Value.slice none 0 0, Value.slice none 0 0] [] (ref06_SameV  r) (ref06_SamePo  r) :=
  Mach.spec fit_Hx (ref06_SameM  N) Try.func19 (by kernel_rfl) (by kernel_rfl) (fun x => by cases x <;> exact le_far _ rfl) (fun r => by cases r <;> exact le_far _ rfl) (fun x => by
    cases x with
    | h1m0 => exact fun _ => (show ¬ (1 ∈ rids (ref06_SameC 1).2) from by decide +kernel)
    ) (fun x => (show (ref06_SameM  N).Ok Try.prog ext_Hx x (ref06_SameStep  N x) from by
    cases x with
    | h1m0 => exact ref06_Same_ok1_0  N
    )) (ref06_Same_en  N) (n := N) h

noncomputable def ref06_SameT0  (n : Nat) : Told := .call [] (Value.bool true) [] 0
def ref06_SameP0 (A : Array Value)  (n : Nat) : Prop := CallSpec Try.prog 19 A [] (Value.bool true) [] n 0

set_option maxRecDepth 100000 in
theorem ref06_SameC0 (A : Array Value)  (N : Nat) (h : ref06_Same  N = some (.r0)) (n : Nat) (hA : A = #[Value.slice none 0 0, Value.slice none 0 0]) (hnd : ([] : List Nat).Nodup) (hlt : ∀ k ∈ ([] : List Nat), k < n) : ref06_SameP0 A   n :=
  cs_args hA (LSpec.callL (show LSpec Try.prog 19 #[Value.slice none 0 0, Value.slice none 0 0] [] (Value.bool true) [] from ref06_Same_spec  N _ h) [] n [] rfl hnd hlt (show 0 ≤ 0 from by decide) (show ∀ j ∈ ([] : List Nat), j < 0 from by decide) (by rfl) trivial (by rfl) trivial trivial rfl rfl rfl rfl rfl)

noncomputable def ref08_Last_2V (L0 : List R_ii) : ref08_Last_2R → Value
  | .r0 w1 w2 w3 => Value.tuple #[Value.agg #[Value.int .i64 w1, Value.int .i64 w2], Value.bool w3]
noncomputable def ref08_Last_2Po (L0 : List R_ii) : ref08_Last_2R → List (Option AObj)
  | .r0 w1 w2 w3 => [some (.cells (rowV E_ii L0) 32)]

set_option maxRecDepth 100000 in
theorem ref08_Last_2_fx (L0 : List R_ii) (N : Nat) : Fx Try.prog ext_Hx Try.f17 [.cells (rowV E_ii L0) 32] #[Value.agg #[Value.slice (some ⟨0, 0, none⟩) L0.length L0.length]] (ref08_Last_2V L0) (ref08_Last_2Po L0) (ref08_Last_2 L0 N) := by
  unfold ref08_Last_2
  refine fx_ite (fun g0 => ?_) (fun g0 => ?_)
  ·
    exact fx_fin (r := (.r0 ((0 : Int)) ((0 : Int)) (false) : ref08_Last_2R)) (fu := 4000) (orc := (orcw [(0, true)] [] [] [] [])) (live := [0]) (u := Value.tuple #[Value.agg #[Value.int .i64 (0 : Int), Value.int .i64 (0 : Int)], Value.bool false]) (bl := [some (.cells (rowV E_ii L0) 32)]) (ob := [((((L0.length : Nat) : Int) == (0 : Int)), true)]) (by kernel_rfl) (obs_cons (beq_iff_eq.2 (by omega)) obs_nil) rfl (by decide) (by rfl) ⟨by rfl, by rfl⟩ ⟨(same_row (E := E_ii) (α := R_ii) _ L0 _), trivial⟩
  ·
    refine fx_ite (fun g1 => ?_) (fun g1 => ?_)
    ·
      exact fx_fin (r := (.r0 ((L0.getD (L0.length - 1) R_ii.z).a0) ((L0.getD (L0.length - 1) R_ii.z).a1) (true) : ref08_Last_2R)) (fu := 4000) (orc := (orcw [(0, false)] [(0, (((L0.length - 1) : Nat) : Int))] [(0, (L0.length - 1))] [(3, [.i (L0.getD (L0.length - 1) R_ii.z).a0, .i (L0.getD (L0.length - 1) R_ii.z).a1])] [])) (live := [0]) (u := Value.tuple #[Value.agg #[Value.int .i64 (L0.getD (L0.length - 1) R_ii.z).a0, Value.int .i64 (L0.getD (L0.length - 1) R_ii.z).a1], Value.bool true]) (bl := [some (.cells (rowV E_ii L0) 32)]) (ob := [(sameR (takeN 2 (List.drop (0 + ((L0.length - 1) * 2)) (rowV E_ii L0))) [.i (L0.getD (L0.length - 1) R_ii.z).a0, .i (L0.getD (L0.length - 1) R_ii.z).a1], true), (Nat.blt (L0.length - 1) L0.length, true), ((((L0.length - 1) : Nat) : Int) == Int.ofNat (L0.length - 1), true), ((IntKind.i64.wrap (((L0.length : Nat) : Int) - (1 : Int))) == (((L0.length - 1) : Nat) : Int), true), ((((L0.length : Nat) : Int) == (0 : Int)), false)]) (by kernel_rfl) (obs_cons (rowV_load (E := E_ii) (L := L0) (i := (L0.length - 1)) (q := 0) (by omega) (show (0 + ((L0.length - 1) * 2)) = (L0.length - 1) * 2 + 0 from by omega) (show 0 + 2 ≤ 2 from by decide) rfl rfl) (obs_cons (blt_of (by omega)) (obs_cons (beq_iff_eq.2 (by first | rfl | exact idx_eq (by omega))) (obs_cons (beq_iff_eq.2 ((wrap_i64 (by first | omega | (simp only [List.length_set, List.length_append, List.length_cons, List.length_nil, List.length_replicate, List.length_take, List.length_drop] at * <;> omega))).trans (by first | rfl | omega))) (obs_cons (beq_eq_false_iff_ne.2 (by omega)) obs_nil))))) rfl (by decide) (by rfl) ⟨by rfl, by rfl⟩ ⟨(same_row (E := E_ii) (α := R_ii) _ L0 _), trivial⟩
    ·
      exact fx_none

set_option maxRecDepth 100000 in
theorem ref08_Last_2_spec (L0 : List R_ii) (N : Nat) (r : ref08_Last_2R) (h : ref08_Last_2 L0 N = some r) : LSpec Try.prog 17 #[Value.agg #[Value.slice (some ⟨0, 0, none⟩) L0.length L0.length]] [.cells (rowV E_ii L0) 32] (ref08_Last_2V L0 r) (ref08_Last_2Po L0 r) :=
  fx_spec fit_Hx Try.func17 (by kernel_rfl) (by kernel_rfl) (fun r => by cases r <;> exact le_far _ rfl) (ref08_Last_2_fx L0 N) h

noncomputable def ref08_Last_2T0 (L0 : List R_ii) (w1 : Int) (w2 : Int) (w3 : Bool) (k0 : Nat) (n : Nat) : Told := .call [(k0, .cells (rowV E_ii L0) 32)] (Value.tuple #[Value.agg #[Value.int .i64 w1, Value.int .i64 w2], Value.bool w3]) [] 0
def ref08_Last_2P0 (A : Array Value) (L0 : List R_ii) (w1 : Int) (w2 : Int) (w3 : Bool) (k0 : Nat) (n : Nat) : Prop := CallSpec Try.prog 17 A [(k0, .cells (rowV E_ii L0) 32)] (Value.tuple #[Value.agg #[Value.int .i64 w1, Value.int .i64 w2], Value.bool w3]) [] n 0

set_option maxRecDepth 100000 in
theorem ref08_Last_2C0 (A : Array Value) (L0 : List R_ii) (w1 : Int) (w2 : Int) (w3 : Bool) (N : Nat) (h : ref08_Last_2 L0 N = some (.r0 w1 w2 w3)) (k0 : Nat) (n : Nat) (hA : A = #[Value.agg #[Value.slice (some ⟨k0, 0, none⟩) L0.length L0.length]]) (hnd : ([k0] : List Nat).Nodup) (hlt : ∀ k ∈ ([k0] : List Nat), k < n) : ref08_Last_2P0 A L0 w1 w2 w3 k0 n :=
  cs_args hA (LSpec.callL (show LSpec Try.prog 17 #[Value.agg #[Value.slice (some ⟨0, 0, none⟩) L0.length L0.length]] [.cells (rowV E_ii L0) 32] (Value.tuple #[Value.agg #[Value.int .i64 w1, Value.int .i64 w2], Value.bool w3]) [some (.cells (rowV E_ii L0) 32)] from ref08_Last_2_spec L0 N _ h) [k0] n [] rfl hnd hlt (show 1 ≤ 1 from by decide) (show ∀ j ∈ ([] : List Nat), j < 1 from by decide) (by rfl) ⟨(under_row _ _ _), trivial⟩ (by rfl) ⟨(under_row _ _ _), trivial⟩ ⟨.inr rfl, trivial⟩ rfl rfl rfl (cons_eq (pair_eq rfl (renO_row _ _ _)) rfl) rfl)

noncomputable def ref06_Same_2V (L0 : List R_ii) (L1 : List R_ii) : ref06_Same_2R → Value
  | .r0 w2 => Value.bool w2
noncomputable def ref06_Same_2Po (L0 : List R_ii) (L1 : List R_ii) : ref06_Same_2R → List (Option AObj)
  | .r0 w2 => [some (.cells (rowV E_ii L0) 32), some (.cells (rowV E_ii L1) 32)]

def ref06_Same_2Hd : ref06_Same_2X → Nat
  | .h1m0 v2 => 1
noncomputable def ref06_Same_2L (L0 : List R_ii) (L1 : List R_ii) : ref06_Same_2X → List (Nat × Value)
  | .h1m0 v2 => [(0, Value.slice (some ⟨0, 0, none⟩) L0.length L0.length), (1, Value.slice (some ⟨1, 0, none⟩) L1.length L1.length), (5, Value.int .i64 ((v2 : Nat) : Int))]
noncomputable def ref06_Same_2H (L0 : List R_ii) (L1 : List R_ii) : ref06_Same_2X → List (Option AObj)
  | .h1m0 v2 => [some (.cells (rowV E_ii L0) 32), some (.cells (rowV E_ii L1) 32)]

noncomputable def ref06_Same_2C : Nat → Code × List Kont
  | 1 => headOf [1, 1, 0, 1, 3] (bodyC Try.f19) []
  | _ => (.skip, [])
def ref06_Same_2IL : Nat → Bool
  | 1 => true
  | _ => true
noncomputable def ref06_Same_2K (i : Nat) : List Kont := match ref06_Same_2IL i with | true => .rnd i :: (ref06_Same_2C i).2 | false => (ref06_Same_2C i).2

noncomputable def ref06_Same_2M (L0 : List R_ii) (L1 : List R_ii) (N : Nat) : Mach := ⟨Try.f19, [.cells (rowV E_ii L0) 32, .cells (rowV E_ii L1) 32], ref06_Same_2X, ref06_Same_2R, ref06_Same_2Step L0 L1 N, ref06_Same_2Hd, ref06_Same_2C, ref06_Same_2IL, ref06_Same_2L L0 L1, ref06_Same_2H L0 L1, ref06_Same_2V L0 L1, ref06_Same_2Po L0 L1⟩

set_option maxRecDepth 100000 in
theorem ref06_Same_2_ok1_0 (L0 : List R_ii) (L1 : List R_ii) (v2 : Nat) (N : Nat) : (ref06_Same_2M L0 L1 N).Ok Try.prog ext_Hx (.h1m0 v2 : ref06_Same_2X) (ref06_Same_2Step L0 L1 N (.h1m0 v2 : ref06_Same_2X)) := by
  show (ref06_Same_2M L0 L1 N).Ok Try.prog ext_Hx (.h1m0 v2 : ref06_Same_2X) (ref06_Same_2_h1m0 L0 L1 N v2)
  unfold ref06_Same_2_h1m0
  refine Mach.ok_ite (fun g0 => ?_) (fun g0 => ?_)
  ·
    refine Mach.ok_ite (fun g1 => ?_) (fun g1 => ?_)
    ·
      refine Mach.ok_ite (fun g2 => ?_) (fun g2 => ?_)
      ·
        exact Mach.ok_fin (M := ref06_Same_2M L0 L1 N) (cd := 1000000) (cm := 0) (r := (.r0 (false) : ref06_Same_2R)) (fu := 4000) (orc := (orcw [(0, true), (1, true)] [] [(0, v2), (1, v2)] [(0, [.i (L0.getD v2 R_ii.z).a0, .i (L0.getD v2 R_ii.z).a1]), (1, [.i (L1.getD v2 R_ii.z).a0, .i (L1.getD v2 R_ii.z).a1])] [])) (live := [0, 1]) (u := Value.bool false) (bl := [some (.cells (rowV E_ii L0) 32), some (.cells (rowV E_ii L1) 32)]) (ob := [((!(((L0.getD v2 R_ii.z).a0 == (L1.getD v2 R_ii.z).a0) && (((L0.getD v2 R_ii.z).a1 == (L1.getD v2 R_ii.z).a1) && true))), true), (sameR (takeN 2 (List.drop (0 + (v2 * 2)) (rowV E_ii L1))) [.i (L1.getD v2 R_ii.z).a0, .i (L1.getD v2 R_ii.z).a1], true), (Nat.blt v2 L1.length, true), (((v2 : Nat) : Int) == Int.ofNat v2, true), (sameR (takeN 2 (List.drop (0 + (v2 * 2)) (rowV E_ii L0))) [.i (L0.getD v2 R_ii.z).a0, .i (L0.getD v2 R_ii.z).a1], true), (Nat.blt v2 L0.length, true), (((v2 : Nat) : Int) == Int.ofNat v2, true), ((decide (((v2 : Nat) : Int) < ((L0.length : Nat) : Int))), true)]) (fun gv => by kernel_rfl) (obs_cons (by rw [Bool.not_eq_true']; exact Bool.eq_false_iff.2 (by simp only [ne_eq, Bool.and_true, Bool.and_eq_true, beq_iff_eq]; first | omega | (intro hh; simp_all; done))) (obs_cons (rowV_load (E := E_ii) (L := L1) (i := v2) (q := 0) (by omega) (show (0 + (v2 * 2)) = v2 * 2 + 0 from by omega) (show 0 + 2 ≤ 2 from by decide) rfl rfl) (obs_cons (blt_of (by omega)) (obs_cons (beq_iff_eq.2 (by first | rfl | exact idx_eq (by omega))) (obs_cons (rowV_load (E := E_ii) (L := L0) (i := v2) (q := 0) (by omega) (show (0 + (v2 * 2)) = v2 * 2 + 0 from by omega) (show 0 + 2 ≤ 2 from by decide) rfl rfl) (obs_cons (blt_of (by omega)) (obs_cons (beq_iff_eq.2 (by first | rfl | exact idx_eq (by omega))) (obs_cons (decide_eq_true (by omega)) obs_nil)))))))) rfl (by decide) (by rfl) ⟨by rfl, by rfl⟩ ⟨(same_row (E := E_ii) (α := R_ii) _ L0 _), ⟨(same_row (E := E_ii) (α := R_ii) _ L1 _), trivial⟩⟩
      ·
        refine Mach.ok_ite (fun g3 => ?_) (fun g3 => ?_)
        ·
          exact Mach.ok_next (M := ref06_Same_2M L0 L1 N) (cd := 1000000) (cm := 0) (y := (.h1m0 ((v2 + 1)) : ref06_Same_2X)) (fu := 4000) (orc := (orcw [(0, true), (1, false)] [(0, (((v2 + 1) : Nat) : Int))] [(0, v2), (1, v2)] [(0, [.i (L0.getD v2 R_ii.z).a0, .i (L0.getD v2 R_ii.z).a1]), (1, [.i (L1.getD v2 R_ii.z).a0, .i (L1.getD v2 R_ii.z).a1])] [])) (live := [0, 1]) (tv := fun _ => [some (Value.slice (some ⟨0, 0, none⟩) L0.length L0.length), some (Value.slice (some ⟨1, 0, none⟩) L1.length L1.length), some (Value.int .i64 (((v2 + 1) : Nat) : Int))]) (bl := [some (.cells (rowV E_ii L0) 32), some (.cells (rowV E_ii L1) 32)]) (ob := [((IntKind.i64.wrap (((v2 : Nat) : Int) + (1 : Int))) == (((v2 + 1) : Nat) : Int), true), ((!(((L0.getD v2 R_ii.z).a0 == (L1.getD v2 R_ii.z).a0) && (((L0.getD v2 R_ii.z).a1 == (L1.getD v2 R_ii.z).a1) && true))), false), (sameR (takeN 2 (List.drop (0 + (v2 * 2)) (rowV E_ii L1))) [.i (L1.getD v2 R_ii.z).a0, .i (L1.getD v2 R_ii.z).a1], true), (Nat.blt v2 L1.length, true), (((v2 : Nat) : Int) == Int.ofNat v2, true), (sameR (takeN 2 (List.drop (0 + (v2 * 2)) (rowV E_ii L0))) [.i (L0.getD v2 R_ii.z).a0, .i (L0.getD v2 R_ii.z).a1], true), (Nat.blt v2 L0.length, true), (((v2 : Nat) : Int) == Int.ofNat v2, true), ((decide (((v2 : Nat) : Int) < ((L0.length : Nat) : Int))), true)]) rfl (show 1 ∈ rids (ref06_Same_2K 1) from by decide +kernel) (fun gv => by kernel_rfl) (obs_cons (beq_iff_eq.2 ((wrap_i64 (by first | omega | (simp only [List.length_set, List.length_append, List.length_cons, List.length_nil, List.length_replicate, List.length_take, List.length_drop] at * <;> omega))).trans (by first | rfl | omega))) (obs_cons (by rw [Bool.not_eq_false']; first | (simp only [beq_self_eq_true, Bool.and_self]; done) | (simp only [Bool.and_true, Bool.and_eq_true, beq_iff_eq] <;> first | omega | (simp_all; done))) (obs_cons (rowV_load (E := E_ii) (L := L1) (i := v2) (q := 0) (by omega) (show (0 + (v2 * 2)) = v2 * 2 + 0 from by omega) (show 0 + 2 ≤ 2 from by decide) rfl rfl) (obs_cons (blt_of (by omega)) (obs_cons (beq_iff_eq.2 (by first | rfl | exact idx_eq (by omega))) (obs_cons (rowV_load (E := E_ii) (L := L0) (i := v2) (q := 0) (by omega) (show (0 + (v2 * 2)) = v2 * 2 + 0 from by omega) (show 0 + 2 ≤ 2 from by decide) rfl rfl) (obs_cons (blt_of (by omega)) (obs_cons (beq_iff_eq.2 (by first | rfl | exact idx_eq (by omega))) (obs_cons (decide_eq_true (by omega)) obs_nil))))))))) rfl (by decide) (by rfl) (fun _ => ⟨⟨by rfl, by rfl⟩, ⟨⟨by rfl, by rfl⟩, ⟨⟨by rfl, by rfl⟩, trivial⟩⟩⟩) ⟨(same_row (E := E_ii) (α := R_ii) _ L0 _), ⟨(same_row (E := E_ii) (α := R_ii) _ L1 _), trivial⟩⟩
        ·
          exact Mach.ok_none
    ·
      exact Mach.ok_none
  ·
    exact Mach.ok_fin (M := ref06_Same_2M L0 L1 N) (cd := 1000000) (cm := 0) (r := (.r0 (true) : ref06_Same_2R)) (fu := 4000) (orc := (orcw [(0, false)] [] [] [] [])) (live := [0, 1]) (u := Value.bool true) (bl := [some (.cells (rowV E_ii L0) 32), some (.cells (rowV E_ii L1) 32)]) (ob := [((decide (((v2 : Nat) : Int) < ((L0.length : Nat) : Int))), false)]) (fun gv => by kernel_rfl) (obs_cons (decide_eq_false (by omega)) obs_nil) rfl (by decide) (by rfl) ⟨by rfl, by rfl⟩ ⟨(same_row (E := E_ii) (α := R_ii) _ L0 _), ⟨(same_row (E := E_ii) (α := R_ii) _ L1 _), trivial⟩⟩

set_option maxRecDepth 100000 in
theorem ref06_Same_2_en (L0 : List R_ii) (L1 : List R_ii) (N : Nat) : (ref06_Same_2M L0 L1 N).Enter Try.prog ext_Hx #[Value.slice (some ⟨0, 0, none⟩) L0.length L0.length, Value.slice (some ⟨1, 0, none⟩) L1.length L1.length] (ref06_Same_2In L0 L1 N) := by
  unfold ref06_Same_2In
  refine Mach.en_ite (fun g0 => ?_) (fun g0 => ?_)
  ·
    exact Mach.en_fin (M := ref06_Same_2M L0 L1 N) (cd := 1000000) (cm := 0) (r := (.r0 (false) : ref06_Same_2R)) (fu := 4000) (orc := (orcw [(0, true)] [] [] [] [])) (live := [0, 1]) (u := Value.bool false) (bl := [some (.cells (rowV E_ii L0) 32), some (.cells (rowV E_ii L1) 32)]) (ob := [((((L0.length : Nat) : Int) != ((L1.length : Nat) : Int)), true)]) (by kernel_rfl) (obs_cons (bne_iff_ne.2 (by omega)) obs_nil) rfl (by decide) (by rfl) ⟨by rfl, by rfl⟩ ⟨(same_row (E := E_ii) (α := R_ii) _ L0 _), ⟨(same_row (E := E_ii) (α := R_ii) _ L1 _), trivial⟩⟩
  ·
    exact Mach.en_head (bK := ref06_Same_2C 1) (M := ref06_Same_2M L0 L1 N) (cd := 1000000) (cm := 0) (y := (.h1m0 (0) : ref06_Same_2X)) (fu := 4000) (orc := (orcw [(0, false)] [] [] [] [])) (live := [0, 1]) (tv := [some (Value.slice (some ⟨0, 0, none⟩) L0.length L0.length), some (Value.slice (some ⟨1, 0, none⟩) L1.length L1.length), some (Value.int .i64 (0 : Int))]) (bl := [some (.cells (rowV E_ii L0) 32), some (.cells (rowV E_ii L1) 32)]) (ob := [((((L0.length : Nat) : Int) != ((L1.length : Nat) : Int)), false)]) rfl rfl (show rids (ref06_Same_2C 1).2 = [] from rfl) (by kernel_rfl) (obs_cons (bne_eq_false_iff_eq.2 (by omega)) obs_nil) rfl (by decide) (by rfl) ⟨⟨by rfl, by rfl⟩, ⟨⟨by rfl, by rfl⟩, ⟨⟨Eq.trans (show (Value.int .i64 ((0 : Nat) : Int) : Value) = Value.int .i64 (0 : Int) from (congrArg (Value.int .i64) (by first | rfl | omega))) (by rfl), by rfl⟩, trivial⟩⟩⟩ ⟨(same_row (E := E_ii) (α := R_ii) _ L0 _), ⟨(same_row (E := E_ii) (α := R_ii) _ L1 _), trivial⟩⟩

set_option maxRecDepth 100000 in
theorem ref06_Same_2_spec (L0 : List R_ii) (L1 : List R_ii) (N : Nat) (r : ref06_Same_2R) (h : ref06_Same_2 L0 L1 N = some r) : LSpec Try.prog 19 #[Value.slice (some ⟨0, 0, none⟩) L0.length L0.length, Value.slice (some ⟨1, 0, none⟩) L1.length L1.length] [.cells (rowV E_ii L0) 32, .cells (rowV E_ii L1) 32] (ref06_Same_2V L0 L1 r) (ref06_Same_2Po L0 L1 r) :=
  Mach.spec fit_Hx (ref06_Same_2M L0 L1 N) Try.func19 (by kernel_rfl) (by kernel_rfl) (fun x => by cases x <;> exact le_far _ rfl) (fun r => by cases r <;> exact le_far _ rfl) (fun x => by
    cases x with
    | h1m0 _ => exact fun _ => (show ¬ (1 ∈ rids (ref06_Same_2C 1).2) from by decide +kernel)
    ) (fun x => (show (ref06_Same_2M L0 L1 N).Ok Try.prog ext_Hx x (ref06_Same_2Step L0 L1 N x) from by
    cases x with
    | h1m0 v2 => exact ref06_Same_2_ok1_0 L0 L1 v2 N
    )) (ref06_Same_2_en L0 L1 N) (n := N) h

noncomputable def ref06_Same_2T0 (L0 : List R_ii) (L1 : List R_ii) (w2 : Bool) (k0 : Nat) (k1 : Nat) (n : Nat) : Told := .call [(k0, .cells (rowV E_ii L0) 32), (k1, .cells (rowV E_ii L1) 32)] (Value.bool w2) [] 0
def ref06_Same_2P0 (A : Array Value) (L0 : List R_ii) (L1 : List R_ii) (w2 : Bool) (k0 : Nat) (k1 : Nat) (n : Nat) : Prop := CallSpec Try.prog 19 A [(k0, .cells (rowV E_ii L0) 32), (k1, .cells (rowV E_ii L1) 32)] (Value.bool w2) [] n 0

set_option maxRecDepth 100000 in
theorem ref06_Same_2C0 (A : Array Value) (L0 : List R_ii) (L1 : List R_ii) (w2 : Bool) (N : Nat) (h : ref06_Same_2 L0 L1 N = some (.r0 w2)) (k0 : Nat) (k1 : Nat) (n : Nat) (hA : A = #[Value.slice (some ⟨k0, 0, none⟩) L0.length L0.length, Value.slice (some ⟨k1, 0, none⟩) L1.length L1.length]) (hnd : ([k0, k1] : List Nat).Nodup) (hlt : ∀ k ∈ ([k0, k1] : List Nat), k < n) : ref06_Same_2P0 A L0 L1 w2 k0 k1 n :=
  cs_args hA (LSpec.callL (show LSpec Try.prog 19 #[Value.slice (some ⟨0, 0, none⟩) L0.length L0.length, Value.slice (some ⟨1, 0, none⟩) L1.length L1.length] [.cells (rowV E_ii L0) 32, .cells (rowV E_ii L1) 32] (Value.bool w2) [some (.cells (rowV E_ii L0) 32), some (.cells (rowV E_ii L1) 32)] from ref06_Same_2_spec L0 L1 N _ h) [k0, k1] n [] rfl hnd hlt (show 2 ≤ 2 from by decide) (show ∀ j ∈ ([] : List Nat), j < 2 from by decide) (by rfl) ⟨(under_row _ _ _), ⟨(under_row _ _ _), trivial⟩⟩ (by rfl) ⟨(under_row _ _ _), ⟨(under_row _ _ _), trivial⟩⟩ ⟨.inr rfl, ⟨.inr rfl, trivial⟩⟩ rfl rfl rfl (cons_eq (pair_eq rfl (renO_row _ _ _)) (cons_eq (pair_eq rfl (renO_row _ _ _)) rfl)) rfl)

noncomputable def ref08_Take_2V (L0 : List R_ii) : ref08_Take_2R → Value
  | .r0 w1 w2 => Value.tuple #[Value.agg #[Value.slice (some ⟨1, 0, none⟩) (L0.take ((((L0.length : Nat) : Int) - (1 : Int))).toNat).length (L0.take ((((L0.length : Nat) : Int) - (1 : Int))).toNat).length], Value.agg #[Value.int .i64 w1, Value.int .i64 w2], Value.bool true]
  | .r1 w1 w2 => Value.tuple #[Value.agg #[Value.slice (some ⟨0, 0, none⟩) L0.length L0.length], Value.agg #[Value.int .i64 w1, Value.int .i64 w2], Value.bool false]
noncomputable def ref08_Take_2Po (L0 : List R_ii) : ref08_Take_2R → List (Option AObj)
  | .r0 w1 w2 => [none, some (.cells (rowV E_ii (L0.take ((((L0.length : Nat) : Int) - (1 : Int))).toNat)) 32)]
  | .r1 w1 w2 => [some (.cells (rowV E_ii L0) 32)]

set_option maxRecDepth 100000 in
theorem ref08_Take_2_fx (L0 : List R_ii) (N : Nat) : Fx Try.prog ext_Hx Try.f9 [.cells (rowV E_ii L0) 32] #[Value.agg #[Value.slice (some ⟨0, 0, none⟩) L0.length L0.length]] (ref08_Take_2V L0) (ref08_Take_2Po L0) (ref08_Take_2 L0 N) := by
  unfold ref08_Take_2
  refine fx_bind (fun z0 c0 => ?_)
  cases z0 with
  | r0 y0_0 y0_1 y0_2 =>
    refine fx_ite (fun g1 => ?_) (fun g1 => ?_)
    ·
      subst g1
      refine fx_ite (fun g2 => ?_) (fun g2 => ?_)
      ·
        refine fx_ite (fun g3 => ?_) (fun g3 => ?_)
        ·
          exact fx_fin (r := (.r0 (y0_0) (y0_1) : ref08_Take_2R)) (fu := 4000) (orc := (orcw [] [(0, (((L0.length : Nat) : Int) - (1 : Int)))] [] [] [(0, (ref08_Last_2T0 (L0)  y0_0 y0_1 true 0 4)), (2, .cut ((((L0.length : Nat) : Int) - (1 : Int))).toNat (rowV E_ii (L0.take ((((L0.length : Nat) : Int) - (1 : Int))).toNat)))])) (live := [0, 5]) (u := Value.tuple #[Value.agg #[Value.slice (some ⟨5, 0, none⟩) ((((L0.length : Nat) : Int) - (1 : Int))).toNat ((((L0.length : Nat) : Int) - (1 : Int))).toNat], Value.agg #[Value.int .i64 y0_0, Value.int .i64 y0_1], Value.bool true]) (bl := [none, some (.cells (rowV E_ii (L0.take ((((L0.length : Nat) : Int) - (1 : Int))).toNat)) 32)]) (ob := [(dP (((((L0.length : Nat) : Int) - (1 : Int))).toNat ≤ L0.length ∧ 0 < 2 ∧ L0.length * 2 ≤ ((rowV E_ii L0) : List Value).length ∧ List.take (((((L0.length : Nat) : Int) - (1 : Int))).toNat * 2) (rowV E_ii L0) = (rowV E_ii (L0.take ((((L0.length : Nat) : Int) - (1 : Int))).toNat))), true), ((((L0.length : Nat) : Int) - (1 : Int)) == Int.ofNat ((((L0.length : Nat) : Int) - (1 : Int))).toNat, true), (dP (0 = 0), true), ((IntKind.i64.wrap (((L0.length : Nat) : Int) - (1 : Int))) == (((L0.length : Nat) : Int) - (1 : Int)), true), (dP (ref08_Last_2P0 #[Value.agg #[Value.slice (some ⟨0, 0, none⟩) L0.length L0.length]] (L0)  y0_0 y0_1 true 0 4), true), (dP ((rowV E_ii L0) = (rowV E_ii L0)), true)]) (by kernel_rfl) (obs_cons (dP_of ⟨by first | omega | (simp only [List.length_set, List.length_append, List.length_cons, List.length_nil, List.length_replicate, List.length_take, List.length_drop] at * <;> omega), by decide, rowV_room (E := E_ii) (L := L0) (by omega) (show _ = _ * 2 from rfl), rowV_cut (E := E_ii) (L := L0) (R := (L0.take ((((L0.length : Nat) : Int) - (1 : Int))).toNat)) (show _ = _ * 2 from rfl) rfl⟩) (obs_cons (beq_iff_eq.2 (by first | rfl | exact idx_eq (by omega))) (obs_cons (dP_of rfl) (obs_cons (beq_iff_eq.2 ((wrap_i64 (by first | omega | (simp only [List.length_set, List.length_append, List.length_cons, List.length_nil, List.length_replicate, List.length_take, List.length_drop] at * <;> omega))).trans (by first | rfl | omega))) (obs_cons (dP_of (ref08_Last_2C0 #[Value.agg #[Value.slice (some ⟨0, 0, none⟩) L0.length L0.length]] (L0)  y0_0 y0_1 true N c0 0 4 rfl (by decide) (by decide))) (obs_cons (dP_of rfl) obs_nil)))))) rfl (by decide) (by rfl) ⟨Eq.trans (show (Value.tuple #[Value.agg #[Value.slice (some ⟨1, 0, none⟩) (L0.take ((((L0.length : Nat) : Int) - (1 : Int))).toNat).length (L0.take ((((L0.length : Nat) : Int) - (1 : Int))).toNat).length], Value.agg #[Value.int .i64 y0_0, Value.int .i64 y0_1], Value.bool true] : Value) = Value.tuple #[Value.agg #[Value.slice (some ⟨1, 0, none⟩) ((((L0.length : Nat) : Int) - (1 : Int))).toNat ((((L0.length : Nat) : Int) - (1 : Int))).toNat], Value.agg #[Value.int .i64 y0_0, Value.int .i64 y0_1], Value.bool true] from (tuple_eq (cons_eq (agg_eq (cons_eq (slice_eq rfl (by first | rfl | first | omega | (simp only [List.length_set, List.length_append, List.length_cons, List.length_nil, List.length_replicate, List.length_take, List.length_drop] at * <;> omega)) (by first | rfl | first | omega | (simp only [List.length_set, List.length_append, List.length_cons, List.length_nil, List.length_replicate, List.length_take, List.length_drop] at * <;> omega))) rfl)) (cons_eq rfl (cons_eq rfl rfl))))) (by rfl), by rfl⟩ ⟨(same_row (E := E_ii) (α := R_ii) _ (L0.take ((((L0.length : Nat) : Int) - (1 : Int))).toNat) _), trivial⟩
        ·
          exact fx_none
      ·
        exact fx_none
    ·
      obtain rfl : y0_2 = false := by simpa using g1
      exact fx_fin (r := (.r1 (y0_0) (y0_1) : ref08_Take_2R)) (fu := 4000) (orc := (orcw [] [] [] [] [(0, (ref08_Last_2T0 (L0)  y0_0 y0_1 false 0 4))])) (live := [0]) (u := Value.tuple #[Value.agg #[Value.slice (some ⟨0, 0, none⟩) L0.length L0.length], Value.agg #[Value.int .i64 y0_0, Value.int .i64 y0_1], Value.bool false]) (bl := [some (.cells (rowV E_ii L0) 32)]) (ob := [(dP (ref08_Last_2P0 #[Value.agg #[Value.slice (some ⟨0, 0, none⟩) L0.length L0.length]] (L0)  y0_0 y0_1 false 0 4), true), (dP ((rowV E_ii L0) = (rowV E_ii L0)), true)]) (by kernel_rfl) (obs_cons (dP_of (ref08_Last_2C0 #[Value.agg #[Value.slice (some ⟨0, 0, none⟩) L0.length L0.length]] (L0)  y0_0 y0_1 false N c0 0 4 rfl (by decide) (by decide))) (obs_cons (dP_of rfl) obs_nil)) rfl (by decide) (by rfl) ⟨by rfl, by rfl⟩ ⟨(same_row (E := E_ii) (α := R_ii) _ L0 _), trivial⟩

set_option maxRecDepth 100000 in
theorem ref08_Take_2_spec (L0 : List R_ii) (N : Nat) (r : ref08_Take_2R) (h : ref08_Take_2 L0 N = some r) : LSpec Try.prog 9 #[Value.agg #[Value.slice (some ⟨0, 0, none⟩) L0.length L0.length]] [.cells (rowV E_ii L0) 32] (ref08_Take_2V L0 r) (ref08_Take_2Po L0 r) :=
  fx_spec fit_Hx Try.func9 (by kernel_rfl) (by kernel_rfl) (fun r => by cases r <;> exact le_far _ rfl) (ref08_Take_2_fx L0 N) h

noncomputable def ref08_Take_2T0 (L0 : List R_ii) (w1 : Int) (w2 : Int) (k0 : Nat) (n : Nat) : Told := .call [(k0, .cells (rowV E_ii L0) 32)] (Value.tuple #[Value.agg #[Value.slice (some ⟨n, 0, none⟩) (L0.take ((((L0.length : Nat) : Int) - (1 : Int))).toNat).length (L0.take ((((L0.length : Nat) : Int) - (1 : Int))).toNat).length], Value.agg #[Value.int .i64 w1, Value.int .i64 w2], Value.bool true]) [(k0, none), (n, some (.cells (rowV E_ii (L0.take ((((L0.length : Nat) : Int) - (1 : Int))).toNat)) 32))] 1
def ref08_Take_2P0 (A : Array Value) (L0 : List R_ii) (w1 : Int) (w2 : Int) (k0 : Nat) (n : Nat) : Prop := CallSpec Try.prog 9 A [(k0, .cells (rowV E_ii L0) 32)] (Value.tuple #[Value.agg #[Value.slice (some ⟨n, 0, none⟩) (L0.take ((((L0.length : Nat) : Int) - (1 : Int))).toNat).length (L0.take ((((L0.length : Nat) : Int) - (1 : Int))).toNat).length], Value.agg #[Value.int .i64 w1, Value.int .i64 w2], Value.bool true]) [(k0, none), (n, some (.cells (rowV E_ii (L0.take ((((L0.length : Nat) : Int) - (1 : Int))).toNat)) 32))] n 1

set_option maxRecDepth 100000 in
theorem ref08_Take_2C0 (A : Array Value) (L0 : List R_ii) (w1 : Int) (w2 : Int) (N : Nat) (h : ref08_Take_2 L0 N = some (.r0 w1 w2)) (k0 : Nat) (n : Nat) (hA : A = #[Value.agg #[Value.slice (some ⟨k0, 0, none⟩) L0.length L0.length]]) (hnd : ([k0] : List Nat).Nodup) (hlt : ∀ k ∈ ([k0] : List Nat), k < n) : ref08_Take_2P0 A L0 w1 w2 k0 n :=
  cs_args hA (LSpec.callL (show LSpec Try.prog 9 #[Value.agg #[Value.slice (some ⟨0, 0, none⟩) L0.length L0.length]] [.cells (rowV E_ii L0) 32] (Value.tuple #[Value.agg #[Value.slice (some ⟨1, 0, none⟩) (L0.take ((((L0.length : Nat) : Int) - (1 : Int))).toNat).length (L0.take ((((L0.length : Nat) : Int) - (1 : Int))).toNat).length], Value.agg #[Value.int .i64 w1, Value.int .i64 w2], Value.bool true]) [none, some (.cells (rowV E_ii (L0.take ((((L0.length : Nat) : Int) - (1 : Int))).toNat)) 32)] from ref08_Take_2_spec L0 N _ h) [k0] n [0, 1] rfl hnd hlt (show 1 ≤ 2 from by decide) (show ∀ j ∈ ([0, 1] : List Nat), j < 2 from by decide) (by rfl) ⟨(under_row _ _ _), trivial⟩ (by rfl) ⟨(under_row _ _ _), trivial⟩ ⟨.inl (by decide), ⟨(by decide), trivial⟩⟩ rfl rfl rfl (cons_eq (pair_eq rfl (renO_row _ _ _)) rfl) (cons_eq (pair_eq rfl rfl) (cons_eq (pair_eq rfl (some_eq (renO_row _ _ _))) rfl)))

noncomputable def ref08_Take_2T1 (L0 : List R_ii) (w1 : Int) (w2 : Int) (k0 : Nat) (n : Nat) : Told := .call [(k0, .cells (rowV E_ii L0) 32)] (Value.tuple #[Value.agg #[Value.slice (some ⟨k0, 0, none⟩) L0.length L0.length], Value.agg #[Value.int .i64 w1, Value.int .i64 w2], Value.bool false]) [] 0
def ref08_Take_2P1 (A : Array Value) (L0 : List R_ii) (w1 : Int) (w2 : Int) (k0 : Nat) (n : Nat) : Prop := CallSpec Try.prog 9 A [(k0, .cells (rowV E_ii L0) 32)] (Value.tuple #[Value.agg #[Value.slice (some ⟨k0, 0, none⟩) L0.length L0.length], Value.agg #[Value.int .i64 w1, Value.int .i64 w2], Value.bool false]) [] n 0

set_option maxRecDepth 100000 in
theorem ref08_Take_2C1 (A : Array Value) (L0 : List R_ii) (w1 : Int) (w2 : Int) (N : Nat) (h : ref08_Take_2 L0 N = some (.r1 w1 w2)) (k0 : Nat) (n : Nat) (hA : A = #[Value.agg #[Value.slice (some ⟨k0, 0, none⟩) L0.length L0.length]]) (hnd : ([k0] : List Nat).Nodup) (hlt : ∀ k ∈ ([k0] : List Nat), k < n) : ref08_Take_2P1 A L0 w1 w2 k0 n :=
  cs_args hA (LSpec.callL (show LSpec Try.prog 9 #[Value.agg #[Value.slice (some ⟨0, 0, none⟩) L0.length L0.length]] [.cells (rowV E_ii L0) 32] (Value.tuple #[Value.agg #[Value.slice (some ⟨0, 0, none⟩) L0.length L0.length], Value.agg #[Value.int .i64 w1, Value.int .i64 w2], Value.bool false]) [some (.cells (rowV E_ii L0) 32)] from ref08_Take_2_spec L0 N _ h) [k0] n [] rfl hnd hlt (show 1 ≤ 1 from by decide) (show ∀ j ∈ ([] : List Nat), j < 1 from by decide) (by rfl) ⟨(under_row _ _ _), trivial⟩ (by rfl) ⟨(under_row _ _ _), trivial⟩ ⟨.inr rfl, trivial⟩ rfl rfl rfl (cons_eq (pair_eq rfl (renO_row _ _ _)) rfl) rfl)

noncomputable def held_Held_Add_2V (a0 : Int) (a1 : Int) (b2 : Bool) (L3 : List R_ii) : held_Held_Add_2R → Value
  | .r0 w1 => Value.int .i64 w1
  | .r1 => Value.int .i64 (0 : Int)
noncomputable def held_Held_Add_2Po (a0 : Int) (a1 : Int) (b2 : Bool) (L3 : List R_ii) : held_Held_Add_2R → List (Option AObj)
  | .r0 w1 => [some (.cells [Value.bool b2, Value.slice (some ⟨1, 0, none⟩) L3.length L3.length] 56), some (.cells (rowV E_ii L3) 32)]
  | .r1 => [some (.cells [Value.bool b2, Value.slice (some ⟨2, 0, none⟩) (L3.length + 1) (L3.length + 1)] 56), none, some (.cells (rowV E_ii (L3 ++ ([(⟨a0, a1⟩ : R_ii)] : List R_ii))) 32)]

set_option maxRecDepth 100000 in
theorem held_Held_Add_2_fx (a0 : Int) (a1 : Int) (b2 : Bool) (L3 : List R_ii) (N : Nat) : Fx Try.prog ext_Hx Try.f12 [.cells [Value.bool b2, Value.slice (some ⟨1, 0, none⟩) L3.length L3.length] 56, .cells (rowV E_ii L3) 32] #[Value.pointer (some ⟨0, 0, none⟩), Value.int .i64 a0, Value.int .i64 a1] (held_Held_Add_2V a0 a1 b2 L3) (held_Held_Add_2Po a0 a1 b2 L3) (held_Held_Add_2 a0 a1 b2 L3 N) := by
  unfold held_Held_Add_2
  refine fx_ite (fun g0 => ?_) (fun g0 => ?_)
  ·
    refine fx_ite (fun g1 => ?_) (fun g1 => ?_)
    ·
      exact fx_fin (r := (.r0 ((1 : Int)) : held_Held_Add_2R)) (fu := 4000) (orc := (orcw [(1, true), (3, true)] [] [] [] [])) (live := [0, 1]) (u := Value.int .i64 (1 : Int)) (bl := [some (.cells [Value.bool b2, Value.slice (some ⟨1, 0, none⟩) L3.length L3.length] 56), some (.cells (rowV E_ii L3) 32)]) (ob := [((decide (a0 < (0 : Int))), true), (b2, true)]) (by kernel_rfl) (obs_cons (decide_eq_true (by omega)) (obs_cons (by assumption) obs_nil)) rfl (by decide) (by rfl) ⟨by rfl, by rfl⟩ ⟨⟨rfl, ⟨[], by rfl⟩, by rfl⟩, ⟨(same_row (E := E_ii) (α := R_ii) _ L3 _), trivial⟩⟩
    ·
      refine fx_ite (fun g2 => ?_) (fun g2 => ?_)
      ·
        exact fx_fin (r := (.r0 ((1 : Int)) : held_Held_Add_2R)) (fu := 4000) (orc := (orcw [(1, true), (3, false), (4, true)] [] [] [] [])) (live := [0, 1]) (u := Value.int .i64 (1 : Int)) (bl := [some (.cells [Value.bool b2, Value.slice (some ⟨1, 0, none⟩) L3.length L3.length] 56), some (.cells (rowV E_ii L3) 32)]) (ob := [((decide (a0 ≥ (1024 : Int))), true), ((decide (a0 < (0 : Int))), false), (b2, true)]) (by kernel_rfl) (obs_cons (decide_eq_true (by omega)) (obs_cons (decide_eq_false (by omega)) (obs_cons (by assumption) obs_nil))) rfl (by decide) (by rfl) ⟨by rfl, by rfl⟩ ⟨⟨rfl, ⟨[], by rfl⟩, by rfl⟩, ⟨(same_row (E := E_ii) (α := R_ii) _ L3 _), trivial⟩⟩
      ·
        refine fx_ite (fun g3 => ?_) (fun g3 => ?_)
        ·
          exact fx_fin (r := (.r0 ((1 : Int)) : held_Held_Add_2R)) (fu := 4000) (orc := (orcw [(1, true), (3, false), (4, false), (5, true)] [] [] [] [])) (live := [0, 1]) (u := Value.int .i64 (1 : Int)) (bl := [some (.cells [Value.bool b2, Value.slice (some ⟨1, 0, none⟩) L3.length L3.length] 56), some (.cells (rowV E_ii L3) 32)]) (ob := [((decide (a1 < (0 : Int))), true), ((decide (a0 ≥ (1024 : Int))), false), ((decide (a0 < (0 : Int))), false), (b2, true)]) (by kernel_rfl) (obs_cons (decide_eq_true (by omega)) (obs_cons (decide_eq_false (by omega)) (obs_cons (decide_eq_false (by omega)) (obs_cons (by assumption) obs_nil)))) rfl (by decide) (by rfl) ⟨by rfl, by rfl⟩ ⟨⟨rfl, ⟨[], by rfl⟩, by rfl⟩, ⟨(same_row (E := E_ii) (α := R_ii) _ L3 _), trivial⟩⟩
        ·
          refine fx_ite (fun g4 => ?_) (fun g4 => ?_)
          ·
            exact fx_fin (r := (.r0 ((1 : Int)) : held_Held_Add_2R)) (fu := 4000) (orc := (orcw [(1, true), (3, false), (4, false), (5, false), (6, true)] [] [] [] [])) (live := [0, 1]) (u := Value.int .i64 (1 : Int)) (bl := [some (.cells [Value.bool b2, Value.slice (some ⟨1, 0, none⟩) L3.length L3.length] 56), some (.cells (rowV E_ii L3) 32)]) (ob := [((decide (a1 > (2199023255552 : Int))), true), ((decide (a1 < (0 : Int))), false), ((decide (a0 ≥ (1024 : Int))), false), ((decide (a0 < (0 : Int))), false), (b2, true)]) (by kernel_rfl) (obs_cons (decide_eq_true (by omega)) (obs_cons (decide_eq_false (by omega)) (obs_cons (decide_eq_false (by omega)) (obs_cons (decide_eq_false (by omega)) (obs_cons (by assumption) obs_nil))))) rfl (by decide) (by rfl) ⟨by rfl, by rfl⟩ ⟨⟨rfl, ⟨[], by rfl⟩, by rfl⟩, ⟨(same_row (E := E_ii) (α := R_ii) _ L3 _), trivial⟩⟩
          ·
            refine fx_bind (fun z5 c5 => ?_)
            cases z5 with
            | r0 y5_0 y5_1 =>
              refine fx_ite (fun g6 => ?_) (fun g6 => ?_)
              ·
                subst g6
                exact fx_fin (r := (.r0 ((80 : Int)) : held_Held_Add_2R)) (fu := 4000) (orc := (orcw [(1, true), (3, false), (4, false), (5, false), (6, false)] [] [] [] [(0, (held_Held_Has_2T0 (a0) (b2) (L3)  y5_0 true 0 1 2))])) (live := [0, 1]) (u := Value.int .i64 (80 : Int)) (bl := [some (.cells [Value.bool b2, Value.slice (some ⟨1, 0, none⟩) L3.length L3.length] 56), some (.cells (rowV E_ii L3) 32)]) (ob := [(dP (held_Held_Has_2P0 #[Value.pointer (some ⟨0, 0, none⟩), Value.int .i64 a0] (a0) (b2) (L3)  y5_0 true 0 1 2), true), (dP ([Value.bool b2, Value.slice (some ⟨1, 0, none⟩) L3.length L3.length] = [Value.bool b2, Value.slice (some ⟨1, 0, none⟩) L3.length L3.length]), true), (dP ((rowV E_ii L3) = (rowV E_ii L3)), true), ((decide (a1 > (2199023255552 : Int))), false), ((decide (a1 < (0 : Int))), false), ((decide (a0 ≥ (1024 : Int))), false), ((decide (a0 < (0 : Int))), false), (b2, true)]) (by kernel_rfl) (obs_cons (dP_of (held_Held_Has_2C0 #[Value.pointer (some ⟨0, 0, none⟩), Value.int .i64 a0] (a0) (b2) (L3)  y5_0 true N c5 0 1 2 rfl (by decide) (by decide))) (obs_cons (dP_of (cons_eq rfl (cons_eq rfl rfl))) (obs_cons (dP_of rfl) (obs_cons (decide_eq_false (by omega)) (obs_cons (decide_eq_false (by omega)) (obs_cons (decide_eq_false (by omega)) (obs_cons (decide_eq_false (by omega)) (obs_cons (by assumption) obs_nil)))))))) rfl (by decide) (by rfl) ⟨by rfl, by rfl⟩ ⟨⟨rfl, ⟨[], by rfl⟩, by rfl⟩, ⟨(same_row (E := E_ii) (α := R_ii) _ L3 _), trivial⟩⟩
              ·
                obtain rfl : y5_1 = false := by simpa using g6
                refine fx_ite (fun g7 => ?_) (fun g7 => ?_)
                ·
                  exact fx_fin (r := (.r1 : held_Held_Add_2R)) (fu := 4000) (orc := (orcw [(1, true), (3, false), (4, false), (5, false), (6, false)] [] [] [] [(0, (held_Held_Has_2T0 (a0) (b2) (L3)  y5_0 false 0 1 2)), (1, .ap 1 [Value.int .i64 a0, Value.int .i64 a1] (rowV E_ii (L3 ++ ([(⟨a0, a1⟩ : R_ii)] : List R_ii))))])) (live := [0, 1, 4]) (u := Value.int .i64 (0 : Int)) (bl := [some (.cells [Value.bool b2, Value.slice (some ⟨4, 0, none⟩) (L3.length + 1) (L3.length + 1)] 56), none, some (.cells (rowV E_ii (L3 ++ ([(⟨a0, a1⟩ : R_ii)] : List R_ii))) 32)]) (ob := [(dP ((1 = 1 ∧ takeN (1 * 2) (List.drop 0 [Value.int .i64 a0, Value.int .i64 a1]) = some [Value.int .i64 a0, Value.int .i64 a1] ∧ allB cell1 [Value.int .i64 a0, Value.int .i64 a1] = true) ∧ 0 < 1 ∧ 1 ≤ 100000 ∧ L3.length < L3.length + 1 ∧ L3.length ≤ 100000 ∧ L3.length * 2 ≤ (List.length (rowV E_ii L3)) ∧ List.take (L3.length * 2) (rowV E_ii L3) ++ [Value.int .i64 a0, Value.int .i64 a1] = (rowV E_ii (L3 ++ ([(⟨a0, a1⟩ : R_ii)] : List R_ii)))), true), (dP (held_Held_Has_2P0 #[Value.pointer (some ⟨0, 0, none⟩), Value.int .i64 a0] (a0) (b2) (L3)  y5_0 false 0 1 2), true), (dP ([Value.bool b2, Value.slice (some ⟨1, 0, none⟩) L3.length L3.length] = [Value.bool b2, Value.slice (some ⟨1, 0, none⟩) L3.length L3.length]), true), (dP ((rowV E_ii L3) = (rowV E_ii L3)), true), ((decide (a1 > (2199023255552 : Int))), false), ((decide (a1 < (0 : Int))), false), ((decide (a0 ≥ (1024 : Int))), false), ((decide (a0 < (0 : Int))), false), (b2, true)]) (by kernel_rfl) (obs_cons (dP_of ⟨⟨rfl, ⟨rfl, rfl⟩⟩, by omega, by omega, by first | omega | (simp only [List.length_set, List.length_append, List.length_cons, List.length_nil, List.length_replicate, List.length_take, List.length_drop] at * <;> omega), by omega, (rowV_dst (E := E_ii) (L := L3) (M := ([(⟨a0, a1⟩ : R_ii)] : List R_ii)) (n := L3.length) (show _ = _ * 2 from rfl) (by omega) (R := (L3 ++ ([(⟨a0, a1⟩ : R_ii)] : List R_ii))) (by rw [List.take_of_length_le (by omega)]))⟩) (obs_cons (dP_of (held_Held_Has_2C0 #[Value.pointer (some ⟨0, 0, none⟩), Value.int .i64 a0] (a0) (b2) (L3)  y5_0 false N c5 0 1 2 rfl (by decide) (by decide))) (obs_cons (dP_of (cons_eq rfl (cons_eq rfl rfl))) (obs_cons (dP_of rfl) (obs_cons (decide_eq_false (by omega)) (obs_cons (decide_eq_false (by omega)) (obs_cons (decide_eq_false (by omega)) (obs_cons (decide_eq_false (by omega)) (obs_cons (by assumption) obs_nil))))))))) rfl (by decide) (by rfl) ⟨by rfl, by rfl⟩ ⟨⟨rfl, ⟨[], by rfl⟩, by rfl⟩, ⟨(same_row (E := E_ii) (α := R_ii) _ (L3 ++ ([(⟨a0, a1⟩ : R_ii)] : List R_ii)) _), trivial⟩⟩
                ·
                  exact fx_none
  ·
    exact fx_fin (r := (.r0 ((4 : Int)) : held_Held_Add_2R)) (fu := 4000) (orc := (orcw [(1, false)] [] [] [] [])) (live := [0, 1]) (u := Value.int .i64 (4 : Int)) (bl := [some (.cells [Value.bool b2, Value.slice (some ⟨1, 0, none⟩) L3.length L3.length] 56), some (.cells (rowV E_ii L3) 32)]) (ob := [(b2, false)]) (by kernel_rfl) (obs_cons (Bool.eq_false_iff.2 (by assumption)) obs_nil) rfl (by decide) (by rfl) ⟨by rfl, by rfl⟩ ⟨⟨rfl, ⟨[], by rfl⟩, by rfl⟩, ⟨(same_row (E := E_ii) (α := R_ii) _ L3 _), trivial⟩⟩

set_option maxRecDepth 100000 in
theorem held_Held_Add_2_spec (a0 : Int) (a1 : Int) (b2 : Bool) (L3 : List R_ii) (N : Nat) (r : held_Held_Add_2R) (h : held_Held_Add_2 a0 a1 b2 L3 N = some r) : LSpec Try.prog 12 #[Value.pointer (some ⟨0, 0, none⟩), Value.int .i64 a0, Value.int .i64 a1] [.cells [Value.bool b2, Value.slice (some ⟨1, 0, none⟩) L3.length L3.length] 56, .cells (rowV E_ii L3) 32] (held_Held_Add_2V a0 a1 b2 L3 r) (held_Held_Add_2Po a0 a1 b2 L3 r) :=
  fx_spec fit_Hx Try.func12 (by kernel_rfl) (by kernel_rfl) (fun r => by cases r <;> exact le_far _ rfl) (held_Held_Add_2_fx a0 a1 b2 L3 N) h

noncomputable def held_Held_Add_2T0 (a0 : Int) (a1 : Int) (b2 : Bool) (L3 : List R_ii) (w1 : Int) (k0 : Nat) (k1 : Nat) (n : Nat) : Told := .call [(k0, .cells [Value.bool b2, Value.slice (some ⟨k1, 0, none⟩) L3.length L3.length] 56), (k1, .cells (rowV E_ii L3) 32)] (Value.int .i64 w1) [] 0
def held_Held_Add_2P0 (A : Array Value) (a0 : Int) (a1 : Int) (b2 : Bool) (L3 : List R_ii) (w1 : Int) (k0 : Nat) (k1 : Nat) (n : Nat) : Prop := CallSpec Try.prog 12 A [(k0, .cells [Value.bool b2, Value.slice (some ⟨k1, 0, none⟩) L3.length L3.length] 56), (k1, .cells (rowV E_ii L3) 32)] (Value.int .i64 w1) [] n 0

set_option maxRecDepth 100000 in
theorem held_Held_Add_2C0 (A : Array Value) (a0 : Int) (a1 : Int) (b2 : Bool) (L3 : List R_ii) (w1 : Int) (N : Nat) (h : held_Held_Add_2 a0 a1 b2 L3 N = some (.r0 w1)) (k0 : Nat) (k1 : Nat) (n : Nat) (hA : A = #[Value.pointer (some ⟨k0, 0, none⟩), Value.int .i64 a0, Value.int .i64 a1]) (hnd : ([k0, k1] : List Nat).Nodup) (hlt : ∀ k ∈ ([k0, k1] : List Nat), k < n) : held_Held_Add_2P0 A a0 a1 b2 L3 w1 k0 k1 n :=
  cs_args hA (LSpec.callL (show LSpec Try.prog 12 #[Value.pointer (some ⟨0, 0, none⟩), Value.int .i64 a0, Value.int .i64 a1] [.cells [Value.bool b2, Value.slice (some ⟨1, 0, none⟩) L3.length L3.length] 56, .cells (rowV E_ii L3) 32] (Value.int .i64 w1) [some (.cells [Value.bool b2, Value.slice (some ⟨1, 0, none⟩) L3.length L3.length] 56), some (.cells (rowV E_ii L3) 32)] from held_Held_Add_2_spec a0 a1 b2 L3 N _ h) [k0, k1] n [] rfl hnd hlt (show 2 ≤ 2 from by decide) (show ∀ j ∈ ([] : List Nat), j < 2 from by decide) (by rfl) ⟨rfl, ⟨(under_row _ _ _), trivial⟩⟩ (by rfl) ⟨rfl, ⟨(under_row _ _ _), trivial⟩⟩ ⟨.inr rfl, ⟨.inr rfl, trivial⟩⟩ rfl rfl rfl (cons_eq (pair_eq rfl rfl) (cons_eq (pair_eq rfl (renO_row _ _ _)) rfl)) rfl)

noncomputable def held_Held_Add_2T1 (a0 : Int) (a1 : Int) (b2 : Bool) (L3 : List R_ii) (k0 : Nat) (k1 : Nat) (n : Nat) : Told := .call [(k0, .cells [Value.bool b2, Value.slice (some ⟨k1, 0, none⟩) L3.length L3.length] 56), (k1, .cells (rowV E_ii L3) 32)] (Value.int .i64 (0 : Int)) [(k0, some (.cells [Value.bool b2, Value.slice (some ⟨n, 0, none⟩) (L3.length + 1) (L3.length + 1)] 56)), (k1, none), (n, some (.cells (rowV E_ii (L3 ++ ([(⟨a0, a1⟩ : R_ii)] : List R_ii))) 32))] 1
def held_Held_Add_2P1 (A : Array Value) (a0 : Int) (a1 : Int) (b2 : Bool) (L3 : List R_ii) (k0 : Nat) (k1 : Nat) (n : Nat) : Prop := CallSpec Try.prog 12 A [(k0, .cells [Value.bool b2, Value.slice (some ⟨k1, 0, none⟩) L3.length L3.length] 56), (k1, .cells (rowV E_ii L3) 32)] (Value.int .i64 (0 : Int)) [(k0, some (.cells [Value.bool b2, Value.slice (some ⟨n, 0, none⟩) (L3.length + 1) (L3.length + 1)] 56)), (k1, none), (n, some (.cells (rowV E_ii (L3 ++ ([(⟨a0, a1⟩ : R_ii)] : List R_ii))) 32))] n 1

set_option maxRecDepth 100000 in
theorem held_Held_Add_2C1 (A : Array Value) (a0 : Int) (a1 : Int) (b2 : Bool) (L3 : List R_ii) (N : Nat) (h : held_Held_Add_2 a0 a1 b2 L3 N = some (.r1)) (k0 : Nat) (k1 : Nat) (n : Nat) (hA : A = #[Value.pointer (some ⟨k0, 0, none⟩), Value.int .i64 a0, Value.int .i64 a1]) (hnd : ([k0, k1] : List Nat).Nodup) (hlt : ∀ k ∈ ([k0, k1] : List Nat), k < n) : held_Held_Add_2P1 A a0 a1 b2 L3 k0 k1 n :=
  cs_args hA (LSpec.callL (show LSpec Try.prog 12 #[Value.pointer (some ⟨0, 0, none⟩), Value.int .i64 a0, Value.int .i64 a1] [.cells [Value.bool b2, Value.slice (some ⟨1, 0, none⟩) L3.length L3.length] 56, .cells (rowV E_ii L3) 32] (Value.int .i64 (0 : Int)) [some (.cells [Value.bool b2, Value.slice (some ⟨2, 0, none⟩) (L3.length + 1) (L3.length + 1)] 56), none, some (.cells (rowV E_ii (L3 ++ ([(⟨a0, a1⟩ : R_ii)] : List R_ii))) 32)] from held_Held_Add_2_spec a0 a1 b2 L3 N _ h) [k0, k1] n [0, 1, 2] rfl hnd hlt (show 2 ≤ 3 from by decide) (show ∀ j ∈ ([0, 1, 2] : List Nat), j < 3 from by decide) (by rfl) ⟨rfl, ⟨(under_row _ _ _), trivial⟩⟩ (by rfl) ⟨rfl, ⟨(under_row _ _ _), trivial⟩⟩ ⟨.inl (by decide), ⟨.inl (by decide), ⟨(by decide), trivial⟩⟩⟩ rfl rfl rfl (cons_eq (pair_eq rfl rfl) (cons_eq (pair_eq rfl (renO_row _ _ _)) rfl)) (cons_eq (pair_eq rfl (some_eq rfl)) (cons_eq (pair_eq rfl rfl) (cons_eq (pair_eq rfl (some_eq (renO_row _ _ _))) rfl))))

noncomputable def ref08_Add_2V (L0 : List R_ii) (a1 : Int) (a2 : Int) : ref08_Add_2R → Value
  | .r0 w1 => Value.tuple #[Value.agg #[Value.slice (some ⟨0, 0, none⟩) L0.length L0.length], Value.int .i64 w1]
  | .r1 w1 => Value.tuple #[Value.agg #[Value.slice (some ⟨1, 0, none⟩) w1.length w1.length], Value.int .i64 (0 : Int)]
noncomputable def ref08_Add_2Po (L0 : List R_ii) (a1 : Int) (a2 : Int) : ref08_Add_2R → List (Option AObj)
  | .r0 w1 => [some (.cells (rowV E_ii L0) 32)]
  | .r1 w1 => [some (.cells (rowV E_ii L0) 32), some (.cells (rowV E_ii w1) 32)]

set_option maxRecDepth 100000 in
theorem ref08_Add_2_fx (L0 : List R_ii) (a1 : Int) (a2 : Int) (N : Nat) : Fx Try.prog ext_Hx Try.f13 [.cells (rowV E_ii L0) 32] #[Value.agg #[Value.slice (some ⟨0, 0, none⟩) L0.length L0.length], Value.int .i64 a1, Value.int .i64 a2] (ref08_Add_2V L0 a1 a2) (ref08_Add_2Po L0 a1 a2) (ref08_Add_2 L0 a1 a2 N) := by
  unfold ref08_Add_2
  refine fx_ite (fun g0 => ?_) (fun g0 => ?_)
  ·
    exact fx_fin (r := (.r0 ((1 : Int)) : ref08_Add_2R)) (fu := 4000) (orc := (orcw [(0, true)] [] [] [] [])) (live := [0]) (u := Value.tuple #[Value.agg #[Value.slice (some ⟨0, 0, none⟩) L0.length L0.length], Value.int .i64 (1 : Int)]) (bl := [some (.cells (rowV E_ii L0) 32)]) (ob := [((decide (a1 < (0 : Int))), true)]) (by kernel_rfl) (obs_cons (decide_eq_true (by omega)) obs_nil) rfl (by decide) (by rfl) ⟨by rfl, by rfl⟩ ⟨(same_row (E := E_ii) (α := R_ii) _ L0 _), trivial⟩
  ·
    refine fx_ite (fun g1 => ?_) (fun g1 => ?_)
    ·
      exact fx_fin (r := (.r0 ((1 : Int)) : ref08_Add_2R)) (fu := 4000) (orc := (orcw [(0, false), (1, true)] [] [] [] [])) (live := [0]) (u := Value.tuple #[Value.agg #[Value.slice (some ⟨0, 0, none⟩) L0.length L0.length], Value.int .i64 (1 : Int)]) (bl := [some (.cells (rowV E_ii L0) 32)]) (ob := [((decide (a1 > (1023 : Int))), true), ((decide (a1 < (0 : Int))), false)]) (by kernel_rfl) (obs_cons (decide_eq_true (by omega)) (obs_cons (decide_eq_false (by omega)) obs_nil)) rfl (by decide) (by rfl) ⟨by rfl, by rfl⟩ ⟨(same_row (E := E_ii) (α := R_ii) _ L0 _), trivial⟩
    ·
      refine fx_ite (fun g2 => ?_) (fun g2 => ?_)
      ·
        exact fx_fin (r := (.r0 ((1 : Int)) : ref08_Add_2R)) (fu := 4000) (orc := (orcw [(0, false), (1, false), (2, true)] [] [] [] [])) (live := [0]) (u := Value.tuple #[Value.agg #[Value.slice (some ⟨0, 0, none⟩) L0.length L0.length], Value.int .i64 (1 : Int)]) (bl := [some (.cells (rowV E_ii L0) 32)]) (ob := [((decide (a2 < (0 : Int))), true), ((decide (a1 > (1023 : Int))), false), ((decide (a1 < (0 : Int))), false)]) (by kernel_rfl) (obs_cons (decide_eq_true (by omega)) (obs_cons (decide_eq_false (by omega)) (obs_cons (decide_eq_false (by omega)) obs_nil))) rfl (by decide) (by rfl) ⟨by rfl, by rfl⟩ ⟨(same_row (E := E_ii) (α := R_ii) _ L0 _), trivial⟩
      ·
        refine fx_ite (fun g3 => ?_) (fun g3 => ?_)
        ·
          exact fx_fin (r := (.r0 ((1 : Int)) : ref08_Add_2R)) (fu := 4000) (orc := (orcw [(0, false), (1, false), (2, false), (3, true)] [] [] [] [])) (live := [0]) (u := Value.tuple #[Value.agg #[Value.slice (some ⟨0, 0, none⟩) L0.length L0.length], Value.int .i64 (1 : Int)]) (bl := [some (.cells (rowV E_ii L0) 32)]) (ob := [((decide (a2 > (2199023255552 : Int))), true), ((decide (a2 < (0 : Int))), false), ((decide (a1 > (1023 : Int))), false), ((decide (a1 < (0 : Int))), false)]) (by kernel_rfl) (obs_cons (decide_eq_true (by omega)) (obs_cons (decide_eq_false (by omega)) (obs_cons (decide_eq_false (by omega)) (obs_cons (decide_eq_false (by omega)) obs_nil)))) rfl (by decide) (by rfl) ⟨by rfl, by rfl⟩ ⟨(same_row (E := E_ii) (α := R_ii) _ L0 _), trivial⟩
        ·
          refine fx_bind (fun z4 c4 => ?_)
          cases z4 with
          | r0 y4_0 y4_1 =>
            refine fx_ite (fun g5 => ?_) (fun g5 => ?_)
            ·
              subst g5
              exact fx_fin (r := (.r0 ((80 : Int)) : ref08_Add_2R)) (fu := 4000) (orc := (orcw [(0, false), (1, false), (2, false), (3, false)] [] [] [] [(0, (ref08_Has_2T0 (L0) (a1)  y4_0 true 0 3))])) (live := [0]) (u := Value.tuple #[Value.agg #[Value.slice (some ⟨0, 0, none⟩) L0.length L0.length], Value.int .i64 (80 : Int)]) (bl := [some (.cells (rowV E_ii L0) 32)]) (ob := [(dP (ref08_Has_2P0 #[Value.agg #[Value.slice (some ⟨0, 0, none⟩) L0.length L0.length], Value.int .i64 a1] (L0) (a1)  y4_0 true 0 3), true), (dP ((rowV E_ii L0) = (rowV E_ii L0)), true), ((decide (a2 > (2199023255552 : Int))), false), ((decide (a2 < (0 : Int))), false), ((decide (a1 > (1023 : Int))), false), ((decide (a1 < (0 : Int))), false)]) (by kernel_rfl) (obs_cons (dP_of (ref08_Has_2C0 #[Value.agg #[Value.slice (some ⟨0, 0, none⟩) L0.length L0.length], Value.int .i64 a1] (L0) (a1)  y4_0 true N c4 0 3 rfl (by decide) (by decide))) (obs_cons (dP_of rfl) (obs_cons (decide_eq_false (by omega)) (obs_cons (decide_eq_false (by omega)) (obs_cons (decide_eq_false (by omega)) (obs_cons (decide_eq_false (by omega)) obs_nil)))))) rfl (by decide) (by rfl) ⟨by rfl, by rfl⟩ ⟨(same_row (E := E_ii) (α := R_ii) _ L0 _), trivial⟩
            ·
              obtain rfl : y4_1 = false := by simpa using g5
              refine fx_ite (fun g6 => ?_) (fun g6 => ?_)
              ·
                exact fx_fin (r := (.r1 (([(⟨a1, a2⟩ : R_ii)] : List R_ii)) : ref08_Add_2R)) (fu := 4000) (orc := (orcw [(0, false), (1, false), (2, false), (3, false)] [] [] [] [(0, (ref08_Has_2T0 (L0) (a1)  y4_0 false 0 3)), (1, .ap0)])) (live := [0, 4]) (u := Value.tuple #[Value.agg #[Value.slice (some ⟨4, 0, none⟩) 1 1], Value.int .i64 (0 : Int)]) (bl := [some (.cells (rowV E_ii L0) 32), some (.cells [Value.int .i64 a1, Value.int .i64 a2] 32)]) (ob := [(dP (0 = L0.length ∧ takeN (L0.length * 2) (List.drop 0 (rowV E_ii L0)) = some [] ∧ allB cell1 [] = true), true), (dP (ref08_Has_2P0 #[Value.agg #[Value.slice (some ⟨0, 0, none⟩) L0.length L0.length], Value.int .i64 a1] (L0) (a1)  y4_0 false 0 3), true), (dP ((rowV E_ii L0) = (rowV E_ii L0)), true), ((decide (a2 > (2199023255552 : Int))), false), ((decide (a2 < (0 : Int))), false), ((decide (a1 > (1023 : Int))), false), ((decide (a1 < (0 : Int))), false)]) (by kernel_rfl) (obs_cons (dP_of ⟨by omega, by rw [show L0.length = 0 by omega]; rfl, rfl⟩) (obs_cons (dP_of (ref08_Has_2C0 #[Value.agg #[Value.slice (some ⟨0, 0, none⟩) L0.length L0.length], Value.int .i64 a1] (L0) (a1)  y4_0 false N c4 0 3 rfl (by decide) (by decide))) (obs_cons (dP_of rfl) (obs_cons (decide_eq_false (by omega)) (obs_cons (decide_eq_false (by omega)) (obs_cons (decide_eq_false (by omega)) (obs_cons (decide_eq_false (by omega)) obs_nil))))))) rfl (by decide) (by rfl) ⟨Eq.trans (show (Value.tuple #[Value.agg #[Value.slice (some ⟨1, 0, none⟩) ([(⟨a1, a2⟩ : R_ii)] : List R_ii).length ([(⟨a1, a2⟩ : R_ii)] : List R_ii).length], Value.int .i64 (0 : Int)] : Value) = Value.tuple #[Value.agg #[Value.slice (some ⟨1, 0, none⟩) 1 1], Value.int .i64 (0 : Int)] from (tuple_eq (cons_eq (agg_eq (cons_eq (slice_eq rfl (by first | rfl | first | omega | (simp only [List.length_set, List.length_append, List.length_cons, List.length_nil, List.length_replicate, List.length_take, List.length_drop] at * <;> omega)) (by first | rfl | first | omega | (simp only [List.length_set, List.length_append, List.length_cons, List.length_nil, List.length_replicate, List.length_take, List.length_drop] at * <;> omega))) rfl)) (cons_eq rfl rfl)))) (by rfl), by rfl⟩ ⟨(same_row (E := E_ii) (α := R_ii) _ L0 _), ⟨(same_cells (E := E_ii) _ (L := ([(⟨a1, a2⟩ : R_ii)] : List R_ii)) _ (show ([Value.int .i64 a1, Value.int .i64 a2] : List Value) = rowV E_ii ([(⟨a1, a2⟩ : R_ii)] : List R_ii) from rfl)), trivial⟩⟩
              ·
                refine fx_ite (fun g7 => ?_) (fun g7 => ?_)
                ·
                  exact fx_fin (r := (.r1 ((L0 ++ ([(⟨a1, a2⟩ : R_ii)] : List R_ii))) : ref08_Add_2R)) (fu := 4000) (orc := (orcw [(0, false), (1, false), (2, false), (3, false)] [] [] [] [(0, (ref08_Has_2T0 (L0) (a1)  y4_0 false 0 3)), (1, .ap L0.length (rowV E_ii L0) (rowV E_ii L0)), (2, .ap 1 [Value.int .i64 a1, Value.int .i64 a2] (rowV E_ii (L0 ++ ([(⟨a1, a2⟩ : R_ii)] : List R_ii))))])) (live := [0, 5]) (u := Value.tuple #[Value.agg #[Value.slice (some ⟨5, 0, none⟩) (L0.length + 1) (L0.length + 1)], Value.int .i64 (0 : Int)]) (bl := [some (.cells (rowV E_ii L0) 32), some (.cells (rowV E_ii (L0 ++ ([(⟨a1, a2⟩ : R_ii)] : List R_ii))) 32)]) (ob := [(dP ((1 = 1 ∧ takeN (1 * 2) (List.drop 0 [Value.int .i64 a1, Value.int .i64 a2]) = some [Value.int .i64 a1, Value.int .i64 a2] ∧ allB cell1 [Value.int .i64 a1, Value.int .i64 a2] = true) ∧ 0 < 1 ∧ 1 ≤ 100000 ∧ L0.length < L0.length + 1 ∧ L0.length ≤ 100000 ∧ L0.length * 2 ≤ (List.length (rowV E_ii L0)) ∧ List.take (L0.length * 2) (rowV E_ii L0) ++ [Value.int .i64 a1, Value.int .i64 a2] = (rowV E_ii (L0 ++ ([(⟨a1, a2⟩ : R_ii)] : List R_ii)))), true), (dP ((L0.length = L0.length ∧ takeN (L0.length * 2) (List.drop 0 (rowV E_ii L0)) = some (rowV E_ii L0) ∧ allB cell1 (rowV E_ii L0) = true) ∧ 0 < L0.length ∧ L0.length ≤ 100000 ∧ (rowV E_ii L0) = (rowV E_ii L0)), true), (dP (ref08_Has_2P0 #[Value.agg #[Value.slice (some ⟨0, 0, none⟩) L0.length L0.length], Value.int .i64 a1] (L0) (a1)  y4_0 false 0 3), true), (dP ((rowV E_ii L0) = (rowV E_ii L0)), true), ((decide (a2 > (2199023255552 : Int))), false), ((decide (a2 < (0 : Int))), false), ((decide (a1 > (1023 : Int))), false), ((decide (a1 < (0 : Int))), false)]) (by kernel_rfl) (obs_cons (dP_of ⟨⟨rfl, ⟨rfl, rfl⟩⟩, by omega, by omega, by first | omega | (simp only [List.length_set, List.length_append, List.length_cons, List.length_nil, List.length_replicate, List.length_take, List.length_drop] at * <;> omega), by omega, (rowV_dst (E := E_ii) (L := L0) (M := ([(⟨a1, a2⟩ : R_ii)] : List R_ii)) (n := L0.length) (show _ = _ * 2 from rfl) (by omega) (R := (L0 ++ ([(⟨a1, a2⟩ : R_ii)] : List R_ii))) (by rw [List.take_of_length_le (by omega)]))⟩) (obs_cons (dP_of ⟨⟨rfl, (src_row (E := E_ii) (L := L0) (a := 0) (n := L0.length) (by omega) (by show _ = _ * 2; omega) (show _ = _ * 2 from rfl) (by rw [List.drop_zero, List.take_of_length_le (by omega)]))⟩, by omega, by omega, rfl⟩) (obs_cons (dP_of (ref08_Has_2C0 #[Value.agg #[Value.slice (some ⟨0, 0, none⟩) L0.length L0.length], Value.int .i64 a1] (L0) (a1)  y4_0 false N c4 0 3 rfl (by decide) (by decide))) (obs_cons (dP_of rfl) (obs_cons (decide_eq_false (by omega)) (obs_cons (decide_eq_false (by omega)) (obs_cons (decide_eq_false (by omega)) (obs_cons (decide_eq_false (by omega)) obs_nil)))))))) rfl (by decide) (by rfl) ⟨Eq.trans (show (Value.tuple #[Value.agg #[Value.slice (some ⟨1, 0, none⟩) (L0 ++ ([(⟨a1, a2⟩ : R_ii)] : List R_ii)).length (L0 ++ ([(⟨a1, a2⟩ : R_ii)] : List R_ii)).length], Value.int .i64 (0 : Int)] : Value) = Value.tuple #[Value.agg #[Value.slice (some ⟨1, 0, none⟩) (L0.length + 1) (L0.length + 1)], Value.int .i64 (0 : Int)] from (tuple_eq (cons_eq (agg_eq (cons_eq (slice_eq rfl (by first | rfl | first | omega | (simp only [List.length_set, List.length_append, List.length_cons, List.length_nil, List.length_replicate, List.length_take, List.length_drop] at * <;> omega)) (by first | rfl | first | omega | (simp only [List.length_set, List.length_append, List.length_cons, List.length_nil, List.length_replicate, List.length_take, List.length_drop] at * <;> omega))) rfl)) (cons_eq rfl rfl)))) (by rfl), by rfl⟩ ⟨(same_row (E := E_ii) (α := R_ii) _ L0 _), ⟨(same_row (E := E_ii) (α := R_ii) _ (L0 ++ ([(⟨a1, a2⟩ : R_ii)] : List R_ii)) _), trivial⟩⟩
                ·
                  exact fx_none

set_option maxRecDepth 100000 in
theorem ref08_Add_2_spec (L0 : List R_ii) (a1 : Int) (a2 : Int) (N : Nat) (r : ref08_Add_2R) (h : ref08_Add_2 L0 a1 a2 N = some r) : LSpec Try.prog 13 #[Value.agg #[Value.slice (some ⟨0, 0, none⟩) L0.length L0.length], Value.int .i64 a1, Value.int .i64 a2] [.cells (rowV E_ii L0) 32] (ref08_Add_2V L0 a1 a2 r) (ref08_Add_2Po L0 a1 a2 r) :=
  fx_spec fit_Hx Try.func13 (by kernel_rfl) (by kernel_rfl) (fun r => by cases r <;> exact le_far _ rfl) (ref08_Add_2_fx L0 a1 a2 N) h

noncomputable def ref08_Add_2T0 (L0 : List R_ii) (a1 : Int) (a2 : Int) (w1 : Int) (k0 : Nat) (n : Nat) : Told := .call [(k0, .cells (rowV E_ii L0) 32)] (Value.tuple #[Value.agg #[Value.slice (some ⟨k0, 0, none⟩) L0.length L0.length], Value.int .i64 w1]) [] 0
def ref08_Add_2P0 (A : Array Value) (L0 : List R_ii) (a1 : Int) (a2 : Int) (w1 : Int) (k0 : Nat) (n : Nat) : Prop := CallSpec Try.prog 13 A [(k0, .cells (rowV E_ii L0) 32)] (Value.tuple #[Value.agg #[Value.slice (some ⟨k0, 0, none⟩) L0.length L0.length], Value.int .i64 w1]) [] n 0

set_option maxRecDepth 100000 in
theorem ref08_Add_2C0 (A : Array Value) (L0 : List R_ii) (a1 : Int) (a2 : Int) (w1 : Int) (N : Nat) (h : ref08_Add_2 L0 a1 a2 N = some (.r0 w1)) (k0 : Nat) (n : Nat) (hA : A = #[Value.agg #[Value.slice (some ⟨k0, 0, none⟩) L0.length L0.length], Value.int .i64 a1, Value.int .i64 a2]) (hnd : ([k0] : List Nat).Nodup) (hlt : ∀ k ∈ ([k0] : List Nat), k < n) : ref08_Add_2P0 A L0 a1 a2 w1 k0 n :=
  cs_args hA (LSpec.callL (show LSpec Try.prog 13 #[Value.agg #[Value.slice (some ⟨0, 0, none⟩) L0.length L0.length], Value.int .i64 a1, Value.int .i64 a2] [.cells (rowV E_ii L0) 32] (Value.tuple #[Value.agg #[Value.slice (some ⟨0, 0, none⟩) L0.length L0.length], Value.int .i64 w1]) [some (.cells (rowV E_ii L0) 32)] from ref08_Add_2_spec L0 a1 a2 N _ h) [k0] n [] rfl hnd hlt (show 1 ≤ 1 from by decide) (show ∀ j ∈ ([] : List Nat), j < 1 from by decide) (by rfl) ⟨(under_row _ _ _), trivial⟩ (by rfl) ⟨(under_row _ _ _), trivial⟩ ⟨.inr rfl, trivial⟩ rfl rfl rfl (cons_eq (pair_eq rfl (renO_row _ _ _)) rfl) rfl)

noncomputable def ref08_Add_2T1 (L0 : List R_ii) (a1 : Int) (a2 : Int) (w1 : List R_ii) (k0 : Nat) (n : Nat) : Told := .call [(k0, .cells (rowV E_ii L0) 32)] (Value.tuple #[Value.agg #[Value.slice (some ⟨n, 0, none⟩) w1.length w1.length], Value.int .i64 (0 : Int)]) [(n, some (.cells (rowV E_ii w1) 32))] 1
def ref08_Add_2P1 (A : Array Value) (L0 : List R_ii) (a1 : Int) (a2 : Int) (w1 : List R_ii) (k0 : Nat) (n : Nat) : Prop := CallSpec Try.prog 13 A [(k0, .cells (rowV E_ii L0) 32)] (Value.tuple #[Value.agg #[Value.slice (some ⟨n, 0, none⟩) w1.length w1.length], Value.int .i64 (0 : Int)]) [(n, some (.cells (rowV E_ii w1) 32))] n 1

set_option maxRecDepth 100000 in
theorem ref08_Add_2C1 (A : Array Value) (L0 : List R_ii) (a1 : Int) (a2 : Int) (w1 : List R_ii) (N : Nat) (h : ref08_Add_2 L0 a1 a2 N = some (.r1 w1)) (k0 : Nat) (n : Nat) (hA : A = #[Value.agg #[Value.slice (some ⟨k0, 0, none⟩) L0.length L0.length], Value.int .i64 a1, Value.int .i64 a2]) (hnd : ([k0] : List Nat).Nodup) (hlt : ∀ k ∈ ([k0] : List Nat), k < n) : ref08_Add_2P1 A L0 a1 a2 w1 k0 n :=
  cs_args hA (LSpec.callL (show LSpec Try.prog 13 #[Value.agg #[Value.slice (some ⟨0, 0, none⟩) L0.length L0.length], Value.int .i64 a1, Value.int .i64 a2] [.cells (rowV E_ii L0) 32] (Value.tuple #[Value.agg #[Value.slice (some ⟨1, 0, none⟩) w1.length w1.length], Value.int .i64 (0 : Int)]) [some (.cells (rowV E_ii L0) 32), some (.cells (rowV E_ii w1) 32)] from ref08_Add_2_spec L0 a1 a2 N _ h) [k0] n [1] rfl hnd hlt (show 1 ≤ 2 from by decide) (show ∀ j ∈ ([1] : List Nat), j < 2 from by decide) (by rfl) ⟨(under_row _ _ _), trivial⟩ (by rfl) ⟨(under_row _ _ _), ⟨(under_row _ _ _), trivial⟩⟩ ⟨.inr rfl, ⟨(by decide), trivial⟩⟩ rfl rfl rfl (cons_eq (pair_eq rfl (renO_row _ _ _)) rfl) (cons_eq (pair_eq rfl (some_eq (renO_row _ _ _))) rfl))

noncomputable def ref06_Same_3V (L0 : List R_ii) : ref06_Same_3R → Value
  | .r0 w1 => Value.bool w1
noncomputable def ref06_Same_3Po (L0 : List R_ii) : ref06_Same_3R → List (Option AObj)
  | .r0 w1 => [some (.cells (rowV E_ii L0) 32)]

def ref06_Same_3Hd : ref06_Same_3X → Nat
  | .h1m0 => 1
noncomputable def ref06_Same_3L (L0 : List R_ii) : ref06_Same_3X → List (Nat × Value)
  | .h1m0 => [(0, Value.slice none 0 0), (1, Value.slice (some ⟨0, 0, none⟩) L0.length L0.length), (5, Value.int .i64 (0 : Int))]
noncomputable def ref06_Same_3H (L0 : List R_ii) : ref06_Same_3X → List (Option AObj)
  | .h1m0 => [some (.cells (rowV E_ii L0) 32)]

noncomputable def ref06_Same_3C : Nat → Code × List Kont
  | 1 => headOf [1, 1, 0, 1, 3] (bodyC Try.f19) []
  | _ => (.skip, [])
def ref06_Same_3IL : Nat → Bool
  | 1 => true
  | _ => true
noncomputable def ref06_Same_3K (i : Nat) : List Kont := match ref06_Same_3IL i with | true => .rnd i :: (ref06_Same_3C i).2 | false => (ref06_Same_3C i).2

noncomputable def ref06_Same_3M (L0 : List R_ii) (N : Nat) : Mach := ⟨Try.f19, [.cells (rowV E_ii L0) 32], ref06_Same_3X, ref06_Same_3R, ref06_Same_3Step L0 N, ref06_Same_3Hd, ref06_Same_3C, ref06_Same_3IL, ref06_Same_3L L0, ref06_Same_3H L0, ref06_Same_3V L0, ref06_Same_3Po L0⟩

set_option maxRecDepth 100000 in
theorem ref06_Same_3_ok1_0 (L0 : List R_ii) (N : Nat) : (ref06_Same_3M L0 N).Ok Try.prog ext_Hx (.h1m0 : ref06_Same_3X) (ref06_Same_3Step L0 N (.h1m0 : ref06_Same_3X)) := by
  show (ref06_Same_3M L0 N).Ok Try.prog ext_Hx (.h1m0 : ref06_Same_3X) (ref06_Same_3_h1m0 L0 N)
  unfold ref06_Same_3_h1m0
  exact Mach.ok_fin (M := ref06_Same_3M L0 N) (cd := 1000000) (cm := 0) (r := (.r0 (true) : ref06_Same_3R)) (fu := 4000) (orc := (orcw [] [] [] [] [])) (live := [0]) (u := Value.bool true) (bl := [some (.cells (rowV E_ii L0) 32)]) (ob := []) (fun gv => by kernel_rfl) obs_nil rfl (by decide) (by rfl) ⟨by rfl, by rfl⟩ ⟨(same_row (E := E_ii) (α := R_ii) _ L0 _), trivial⟩

set_option maxRecDepth 100000 in
theorem ref06_Same_3_en (L0 : List R_ii) (N : Nat) : (ref06_Same_3M L0 N).Enter Try.prog ext_Hx #[Value.slice none 0 0, Value.slice (some ⟨0, 0, none⟩) L0.length L0.length] (ref06_Same_3In L0 N) := by
  unfold ref06_Same_3In
  refine Mach.en_ite (fun g0 => ?_) (fun g0 => ?_)
  ·
    exact Mach.en_fin (M := ref06_Same_3M L0 N) (cd := 1000000) (cm := 0) (r := (.r0 (false) : ref06_Same_3R)) (fu := 4000) (orc := (orcw [(0, true)] [] [] [] [])) (live := [0]) (u := Value.bool false) (bl := [some (.cells (rowV E_ii L0) 32)]) (ob := [(((0 : Int) != ((L0.length : Nat) : Int)), true)]) (by kernel_rfl) (obs_cons (bne_iff_ne.2 (by omega)) obs_nil) rfl (by decide) (by rfl) ⟨by rfl, by rfl⟩ ⟨(same_row (E := E_ii) (α := R_ii) _ L0 _), trivial⟩
  ·
    exact Mach.en_head (bK := ref06_Same_3C 1) (M := ref06_Same_3M L0 N) (cd := 1000000) (cm := 0) (y := (.h1m0 : ref06_Same_3X)) (fu := 4000) (orc := (orcw [(0, false)] [] [] [] [])) (live := [0]) (tv := [some (Value.slice none 0 0), some (Value.slice (some ⟨0, 0, none⟩) L0.length L0.length), some (Value.int .i64 (0 : Int))]) (bl := [some (.cells (rowV E_ii L0) 32)]) (ob := [(((0 : Int) != ((L0.length : Nat) : Int)), false)]) rfl rfl (show rids (ref06_Same_3C 1).2 = [] from rfl) (by kernel_rfl) (obs_cons (bne_eq_false_iff_eq.2 (by omega)) obs_nil) rfl (by decide) (by rfl) ⟨⟨by rfl, by rfl⟩, ⟨⟨by rfl, by rfl⟩, ⟨⟨by rfl, by rfl⟩, trivial⟩⟩⟩ ⟨(same_row (E := E_ii) (α := R_ii) _ L0 _), trivial⟩

set_option maxRecDepth 100000 in
theorem ref06_Same_3_spec (L0 : List R_ii) (N : Nat) (r : ref06_Same_3R) (h : ref06_Same_3 L0 N = some r) : LSpec Try.prog 19 #[Value.slice none 0 0, Value.slice (some ⟨0, 0, none⟩) L0.length L0.length] [.cells (rowV E_ii L0) 32] (ref06_Same_3V L0 r) (ref06_Same_3Po L0 r) :=
  Mach.spec fit_Hx (ref06_Same_3M L0 N) Try.func19 (by kernel_rfl) (by kernel_rfl) (fun x => by cases x <;> exact le_far _ rfl) (fun r => by cases r <;> exact le_far _ rfl) (fun x => by
    cases x with
    | h1m0 => exact fun _ => (show ¬ (1 ∈ rids (ref06_Same_3C 1).2) from by decide +kernel)
    ) (fun x => (show (ref06_Same_3M L0 N).Ok Try.prog ext_Hx x (ref06_Same_3Step L0 N x) from by
    cases x with
    | h1m0 => exact ref06_Same_3_ok1_0 L0 N
    )) (ref06_Same_3_en L0 N) (n := N) h

noncomputable def ref06_Same_3T0 (L0 : List R_ii) (w1 : Bool) (k0 : Nat) (n : Nat) : Told := .call [(k0, .cells (rowV E_ii L0) 32)] (Value.bool w1) [] 0
def ref06_Same_3P0 (A : Array Value) (L0 : List R_ii) (w1 : Bool) (k0 : Nat) (n : Nat) : Prop := CallSpec Try.prog 19 A [(k0, .cells (rowV E_ii L0) 32)] (Value.bool w1) [] n 0

set_option maxRecDepth 100000 in
theorem ref06_Same_3C0 (A : Array Value) (L0 : List R_ii) (w1 : Bool) (N : Nat) (h : ref06_Same_3 L0 N = some (.r0 w1)) (k0 : Nat) (n : Nat) (hA : A = #[Value.slice none 0 0, Value.slice (some ⟨k0, 0, none⟩) L0.length L0.length]) (hnd : ([k0] : List Nat).Nodup) (hlt : ∀ k ∈ ([k0] : List Nat), k < n) : ref06_Same_3P0 A L0 w1 k0 n :=
  cs_args hA (LSpec.callL (show LSpec Try.prog 19 #[Value.slice none 0 0, Value.slice (some ⟨0, 0, none⟩) L0.length L0.length] [.cells (rowV E_ii L0) 32] (Value.bool w1) [some (.cells (rowV E_ii L0) 32)] from ref06_Same_3_spec L0 N _ h) [k0] n [] rfl hnd hlt (show 1 ≤ 1 from by decide) (show ∀ j ∈ ([] : List Nat), j < 1 from by decide) (by rfl) ⟨(under_row _ _ _), trivial⟩ (by rfl) ⟨(under_row _ _ _), trivial⟩ ⟨.inr rfl, trivial⟩ rfl rfl rfl (cons_eq (pair_eq rfl (renO_row _ _ _)) rfl) rfl)

noncomputable def law08_HeldRunsV (o0 : Nat) (L1 : List R_uii) (n2 : Nat) (O0 : Obj) : law08_HeldRunsR → Value
  | .r0 w2 => Value.bool w2
noncomputable def law08_HeldRunsPo (o0 : Nat) (L1 : List R_uii) (n2 : Nat) (O0 : Obj) : law08_HeldRunsR → List (Option AObj)
  | .r0 w2 => [some (.ro O0)]

def law08_HeldRunsHd : law08_HeldRunsX → Nat
  | .h1m0 v3 => 1
  | .h1m1 v3 v5 v6 => 1
  | .h1m2 v3 v5 => 1
  | .h2m0 v3 v4 v5 => 2
  | .h2m1 v3 v4 v5 v7 v10 v11 v13 v16 v17 => 2
  | .h2m2 v3 v8 v9 v13 => 2
  | .h2m3 v3 v4 v5 v6 v7 v8 v9 v10 v11 v13 v14 v15 v16 v17 v18 => 2
  | .h3m0 v3 v4 v5 => 3
  | .h3m1 v3 v4 v5 v7 v10 v11 v14 v17 v18 => 3
  | .h3m2 v3 v8 v9 v12 v14 v19 v20 => 3
  | .h3m3 v3 v4 v5 v6 v7 v8 v9 v10 v11 v12 v14 v15 v16 v17 v18 v19 v20 v21 => 3
noncomputable def law08_HeldRunsL (o0 : Nat) (L1 : List R_uii) (n2 : Nat) (O0 : Obj) : law08_HeldRunsX → List (Nat × Value)
  | .h1m0 v3 => [(0, Value.slice (some ⟨0, o0, none⟩) L1.length n2), (3, Value.pointer (some ⟨1, 0, none⟩)), (4, Value.pointer (some ⟨2, 0, none⟩)), (5, Value.int .i64 ((v3 : Nat) : Int))]
  | .h1m1 v3 v5 v6 => [(0, Value.slice (some ⟨0, o0, none⟩) L1.length n2), (3, Value.pointer (some ⟨1, 0, none⟩)), (4, Value.pointer (some ⟨2, 0, none⟩)), (5, Value.int .i64 ((v3 : Nat) : Int))]
  | .h1m2 v3 v5 => [(0, Value.slice (some ⟨0, o0, none⟩) L1.length n2), (3, Value.pointer (some ⟨1, 0, none⟩)), (4, Value.pointer (some ⟨2, 0, none⟩)), (5, Value.int .i64 ((v3 : Nat) : Int))]
  | .h2m0 v3 v4 v5 => [(0, Value.slice (some ⟨0, o0, none⟩) L1.length n2), (3, Value.pointer (some ⟨1, 0, none⟩)), (4, Value.pointer (some ⟨2, 0, none⟩)), (5, Value.int .i64 ((v3 : Nat) : Int)), (7, Value.pointer (some ⟨3, 0, none⟩)), (8, Value.pointer (some ⟨4, 0, none⟩)), (9, Value.int .i64 v4), (10, Value.int .i64 ((v5 : Nat) : Int)), (11, Value.bool false), (12, Value.bool false), (14, Value.int .i64 (0 : Int)), (15, Value.bool false), (16, Value.int .i64 (0 : Int)), (17, Value.bool false)]
  | .h2m1 v3 v4 v5 v7 v10 v11 v13 v16 v17 => [(0, Value.slice (some ⟨0, o0, none⟩) L1.length n2), (3, Value.pointer (some ⟨1, 0, none⟩)), (4, Value.pointer (some ⟨2, 0, none⟩)), (5, Value.int .i64 ((v3 : Nat) : Int)), (7, Value.pointer (some ⟨3, 0, none⟩)), (8, Value.pointer (some ⟨4, 0, none⟩)), (9, Value.int .i64 v4), (10, Value.int .i64 v5), (11, Value.bool false), (12, Value.bool v7), (14, Value.int .i64 (0 : Int)), (15, Value.bool false), (16, Value.int .i64 v10), (17, Value.bool v11)]
  | .h2m2 v3 v8 v9 v13 => [(0, Value.slice (some ⟨0, o0, none⟩) L1.length n2), (3, Value.pointer (some ⟨1, 0, none⟩)), (4, Value.pointer (some ⟨2, 0, none⟩)), (5, Value.int .i64 ((v3 : Nat) : Int)), (7, Value.pointer (some ⟨3, 0, none⟩)), (8, Value.pointer (some ⟨4, 0, none⟩)), (9, Value.int .i64 (0 : Int)), (10, Value.int .i64 (1 : Int)), (11, Value.bool false), (12, Value.bool false), (14, Value.int .i64 v8), (15, Value.bool v9), (16, Value.int .i64 (0 : Int)), (17, Value.bool false)]
  | .h2m3 v3 v4 v5 v6 v7 v8 v9 v10 v11 v13 v14 v15 v16 v17 v18 => [(0, Value.slice (some ⟨0, o0, none⟩) L1.length n2), (3, Value.pointer (some ⟨1, 0, none⟩)), (4, Value.pointer (some ⟨2, 0, none⟩)), (5, Value.int .i64 ((v3 : Nat) : Int)), (7, Value.pointer (some ⟨3, 0, none⟩)), (8, Value.pointer (some ⟨4, 0, none⟩)), (9, Value.int .i64 v4), (10, Value.int .i64 v5), (11, Value.bool v6), (12, Value.bool v7), (14, Value.int .i64 v8), (15, Value.bool v9), (16, Value.int .i64 v10), (17, Value.bool v11)]
  | .h3m0 v3 v4 v5 => [(0, Value.slice (some ⟨0, o0, none⟩) L1.length n2), (3, Value.pointer (some ⟨1, 0, none⟩)), (4, Value.pointer (some ⟨2, 0, none⟩)), (5, Value.int .i64 ((v3 : Nat) : Int)), (7, Value.pointer (some ⟨3, 0, none⟩)), (8, Value.pointer (some ⟨4, 0, none⟩)), (9, Value.int .i64 v4), (10, Value.int .i64 ((v5 : Nat) : Int)), (11, Value.bool false), (12, Value.bool false), (14, Value.int .i64 (0 : Int)), (15, Value.bool false), (16, Value.int .i64 (0 : Int)), (17, Value.bool false), (18, Value.pointer (some ⟨5, 0, none⟩)), (19, Value.bool false)]
  | .h3m1 v3 v4 v5 v7 v10 v11 v14 v17 v18 => [(0, Value.slice (some ⟨0, o0, none⟩) L1.length n2), (3, Value.pointer (some ⟨1, 0, none⟩)), (4, Value.pointer (some ⟨2, 0, none⟩)), (5, Value.int .i64 ((v3 : Nat) : Int)), (7, Value.pointer (some ⟨3, 0, none⟩)), (8, Value.pointer (some ⟨4, 0, none⟩)), (9, Value.int .i64 v4), (10, Value.int .i64 v5), (11, Value.bool false), (12, Value.bool v7), (14, Value.int .i64 (0 : Int)), (15, Value.bool false), (16, Value.int .i64 v10), (17, Value.bool v11), (18, Value.pointer (some ⟨5, 0, none⟩)), (19, Value.bool false)]
  | .h3m2 v3 v8 v9 v12 v14 v19 v20 => [(0, Value.slice (some ⟨0, o0, none⟩) L1.length n2), (3, Value.pointer (some ⟨1, 0, none⟩)), (4, Value.pointer (some ⟨2, 0, none⟩)), (5, Value.int .i64 ((v3 : Nat) : Int)), (7, Value.pointer (some ⟨3, 0, none⟩)), (8, Value.pointer (some ⟨4, 0, none⟩)), (9, Value.int .i64 (0 : Int)), (10, Value.int .i64 (1 : Int)), (11, Value.bool false), (12, Value.bool false), (14, Value.int .i64 v8), (15, Value.bool v9), (16, Value.int .i64 (0 : Int)), (17, Value.bool false), (18, Value.pointer (some ⟨5, 0, none⟩)), (19, Value.bool v12)]
  | .h3m3 v3 v4 v5 v6 v7 v8 v9 v10 v11 v12 v14 v15 v16 v17 v18 v19 v20 v21 => [(0, Value.slice (some ⟨0, o0, none⟩) L1.length n2), (3, Value.pointer (some ⟨1, 0, none⟩)), (4, Value.pointer (some ⟨2, 0, none⟩)), (5, Value.int .i64 ((v3 : Nat) : Int)), (7, Value.pointer (some ⟨3, 0, none⟩)), (8, Value.pointer (some ⟨4, 0, none⟩)), (9, Value.int .i64 v4), (10, Value.int .i64 v5), (11, Value.bool v6), (12, Value.bool v7), (14, Value.int .i64 v8), (15, Value.bool v9), (16, Value.int .i64 v10), (17, Value.bool v11), (18, Value.pointer (some ⟨5, 0, none⟩)), (19, Value.bool v12)]
noncomputable def law08_HeldRunsH (o0 : Nat) (L1 : List R_uii) (n2 : Nat) (O0 : Obj) : law08_HeldRunsX → List (Option AObj)
  | .h1m0 v3 => [some (.ro O0), some (.cells [Value.bool true, Value.slice none 0 0] 56), some (.cells [Value.slice none 0 0] 27)]
  | .h1m1 v3 v5 v6 => [some (.ro O0), some (.cells [Value.bool true, Value.slice (some ⟨3, 0, none⟩) v5.length v5.length] 56), some (.cells [Value.slice (some ⟨4, 0, none⟩) v6.length v6.length] 27), some (.cells (rowV E_ii v5) 32), some (.cells (rowV E_ii v6) 32)]
  | .h1m2 v3 v5 => [some (.ro O0), some (.cells [Value.bool true, Value.slice none 0 0] 56), some (.cells [Value.slice (some ⟨3, 0, none⟩) v5.length v5.length] 27), some (.cells (rowV E_ii v5) 32)]
  | .h2m0 v3 v4 v5 => [some (.ro O0), some (.cells [Value.bool true, Value.slice none 0 0] 56), some (.cells [Value.slice none 0 0] 27), some (.cells [Value.int .i64 (0 : Int), Value.int .i64 (0 : Int)] 32), some (.cells [Value.int .i64 (0 : Int), Value.int .i64 (0 : Int)] 32)]
  | .h2m1 v3 v4 v5 v7 v10 v11 v13 v16 v17 => [some (.ro O0), some (.cells [Value.bool true, Value.slice none 0 0] 56), some (.cells [Value.slice (some ⟨5, 0, none⟩) v13.length v13.length] 27), some (.cells [Value.int .i64 (0 : Int), Value.int .i64 (0 : Int)] 32), some (.cells [Value.int .i64 v16, Value.int .i64 v17] 32), some (.cells (rowV E_ii v13) 32)]
  | .h2m2 v3 v8 v9 v13 => [some (.ro O0), some (.cells [Value.bool true, Value.slice (some ⟨5, 0, none⟩) v13.length v13.length] 56), some (.cells [Value.slice none 0 0] 27), some (.cells [Value.int .i64 (0 : Int), Value.int .i64 (0 : Int)] 32), some (.cells [Value.int .i64 (0 : Int), Value.int .i64 (0 : Int)] 32), some (.cells (rowV E_ii v13) 32)]
  | .h2m3 v3 v4 v5 v6 v7 v8 v9 v10 v11 v13 v14 v15 v16 v17 v18 => [some (.ro O0), some (.cells [Value.bool true, Value.slice (some ⟨5, 0, none⟩) v13.length v13.length] 56), some (.cells [Value.slice (some ⟨6, 0, none⟩) v14.length v14.length] 27), some (.cells [Value.int .i64 v15, Value.int .i64 v16] 32), some (.cells [Value.int .i64 v17, Value.int .i64 v18] 32), some (.cells (rowV E_ii v13) 32), some (.cells (rowV E_ii v14) 32)]
  | .h3m0 v3 v4 v5 => [some (.ro O0), some (.cells [Value.bool true, Value.slice none 0 0] 56), some (.cells [Value.slice none 0 0] 27), some (.cells [Value.int .i64 (0 : Int), Value.int .i64 (0 : Int)] 32), some (.cells [Value.int .i64 (0 : Int), Value.int .i64 (0 : Int)] 32), some (.cells [Value.int .i64 (0 : Int), Value.int .i64 (0 : Int)] 32)]
  | .h3m1 v3 v4 v5 v7 v10 v11 v14 v17 v18 => [some (.ro O0), some (.cells [Value.bool true, Value.slice none 0 0] 56), some (.cells [Value.slice (some ⟨6, 0, none⟩) v14.length v14.length] 27), some (.cells [Value.int .i64 (0 : Int), Value.int .i64 (0 : Int)] 32), some (.cells [Value.int .i64 v17, Value.int .i64 v18] 32), some (.cells [Value.int .i64 (0 : Int), Value.int .i64 (0 : Int)] 32), some (.cells (rowV E_ii v14) 32)]
  | .h3m2 v3 v8 v9 v12 v14 v19 v20 => [some (.ro O0), some (.cells [Value.bool true, Value.slice (some ⟨6, 0, none⟩) v14.length v14.length] 56), some (.cells [Value.slice none 0 0] 27), some (.cells [Value.int .i64 (0 : Int), Value.int .i64 (0 : Int)] 32), some (.cells [Value.int .i64 (0 : Int), Value.int .i64 (0 : Int)] 32), some (.cells [Value.int .i64 v19, Value.int .i64 v20] 32), some (.cells (rowV E_ii v14) 32)]
  | .h3m3 v3 v4 v5 v6 v7 v8 v9 v10 v11 v12 v14 v15 v16 v17 v18 v19 v20 v21 => [some (.ro O0), some (.cells [Value.bool true, Value.slice (some ⟨6, 0, none⟩) v14.length v14.length] 56), some (.cells [Value.slice (some ⟨7, 0, none⟩) v15.length v15.length] 27), some (.cells [Value.int .i64 v16, Value.int .i64 v17] 32), some (.cells [Value.int .i64 v18, Value.int .i64 v19] 32), some (.cells [Value.int .i64 v20, Value.int .i64 v21] 32), some (.cells (rowV E_ii v14) 32), some (.cells (rowV E_ii v15) 32)]

noncomputable def law08_HeldRunsC : Nat → Code × List Kont
  | 1 => headOf [1, 1, 1, 1, 0, 1, 3] (bodyC Try.f3) []
  | 2 => atOf [1, 1, 1, 1, 0, 1, 3, 7, 1, 0, 3, 1, 1, 1, 1, 1, 1, 1] (bodyC Try.f3) []
  | 3 => atOf [1, 1, 1, 1, 0, 1, 3, 7, 1, 0, 3, 1, 1, 1, 1, 1, 1, 1, 1] (bodyC Try.f3) []
  | _ => (.skip, [])
def law08_HeldRunsIL : Nat → Bool
  | 1 => true
  | 2 => false
  | 3 => false
  | _ => true
noncomputable def law08_HeldRunsK (i : Nat) : List Kont := match law08_HeldRunsIL i with | true => .rnd i :: (law08_HeldRunsC i).2 | false => (law08_HeldRunsC i).2

noncomputable def law08_HeldRunsM (o0 : Nat) (L1 : List R_uii) (n2 : Nat) (O0 : Obj) (N : Nat) : Mach := ⟨Try.f3, [.ro O0], law08_HeldRunsX, law08_HeldRunsR, law08_HeldRunsStep L1 n2 N, law08_HeldRunsHd, law08_HeldRunsC, law08_HeldRunsIL, law08_HeldRunsL o0 L1 n2 O0, law08_HeldRunsH o0 L1 n2 O0, law08_HeldRunsV o0 L1 n2 O0, law08_HeldRunsPo o0 L1 n2 O0⟩

end Ev
end Go.Proofs.Ytfpfedjihepcbaa
