/- The runner over this program. -/
import Derived.Test.YtnahodeffgoccaaEvK
import Derived.Test.YtnahodeffgoccaaLib
namespace Go.Proofs.Ytnahodeffgoccaa
open Go.RowKit
namespace Ev

theorem bif_or {b : Bool} {x e : Nat} {y : Option Nat} (h : (bif b then some x else y) = some e) : (b = true ∧ x = e) ∨ y = some e := by
  cases b with
  | true => exact .inl ⟨rfl, by simpa using h⟩
  | false => exact .inr (by simpa using h)

def ext0 : FuncId → Option Nat := fun f =>
   none

theorem noGo : (Try.prog.funcs.toList.all fun fn => !(fn.name == "runtime.NumGoroutine")) = true := by kernel_rfl
theorem mixed : Try.prog.follows .mixedOrders = true := by kernel_rfl
/-- The program's atomics, and functions of which it is known what they hand back. -/
def extW (sp : FuncId → Option (List Value → Option Value)) : FuncId → Option Ext := fun f => match ext0 f with
  | some e => some (.at e)
  | none => match sp f with
    | some g => some (.fn g)
    | none => none
/-- What they hand back. -/
def Known (sp : FuncId → Option (List Value → Option Value)) : Prop := ∀ (f : Nat) (g : List Value → Option Value), sp f = some g → (∃ (fn : Func) (c : Code), Try.prog.funcs[f]? = some fn ∧ fn.body = some c) ∧
  ∀ (args : Array Value) (v : Value), allB free args.toList = true → g args.toList = some v → ∀ w, Calls Try.prog f args w fun e w' => e = .returned v ∧ Below w.heap.size w w'
theorem fitW {sp : FuncId → Option (List Value → Option Value)} (hsp : Known sp) : Fit Try.prog (extW sp) := by
  refine ⟨mixed, fun f fn hf => ?_, fun f g hg => ?_, fun f e he => ?_⟩
  · have := List.all_eq_true.1 noGo fn (by
      obtain ⟨h, rfl⟩ := Array.getElem?_eq_some_iff.1 hf
      simp)
    simpa using this
  · unfold extW at hg
    split at hg
    · cases hg
    · split at hg
      · rename_i g' hg'
        injection hg with hg; injection hg with hg; subst hg
        exact hsp f g' hg'
      · cases hg
  · unfold extW at he
    split at he
    rotate_left
    · split at he <;> cases he
    rename_i e' he'
    injection he with he; injection he with he; subst he
    replace he := he'
    unfold ext0 at he
    cases he
def noSp : FuncId → Option (List Value → Option Value) := fun _ => none
theorem noKnown : Known noSp := fun f g h => by cases h
def ext : FuncId → Option Ext := extW noSp
theorem fit : Fit Try.prog ext := fitW noKnown
/-- What the runner says of a call whose result is plain, all tests answered. -/
def out (r : Out) : Option Value := match r with
  | some (v, s) => match s.ob with
    | [] => bif free v then some v else none
    | _ => none
  | none => none
theorem ret_of (fu : Nat) {f : FuncId} {args : Array Value} {v : Value} (w : World) (h : out (evCall Try.prog ext fu f args ⟨.nil, 0, [], ⟨[], []⟩, []⟩) = some v) (ha : allB free args.toList = true) : Calls Try.prog f args w (Ret v w) := by
  unfold out at h
  split at h
  · rename_i u s hr
    split at h
    · rename_i ho
      obtain ⟨hf, h⟩ := bif_some h
      injection h with h
      subst h
      exact (ev_rel fit hr (by rw [ho]; simp) (VRs.of_free ha) hf w).mono fun e w' ⟨h1, h2⟩ => ⟨h1, h2⟩
    · cases h
  · cases h
/-- The same with tests that are answered by what is told. -/
def outO (r : Out) : Option (Value × List (Bool × Bool)) := match r with
  | some (v, s) => bif free v then some (v, s.ob) else none
  | none => none
theorem ret_rel (fu : Nat) {f : FuncId} {args args' : Array Value} {v : Value} {orc : Orc} {ob : List (Bool × Bool)} (w : World) (h : outO (evCall Try.prog ext fu f args ⟨.nil, 0, [], orc, []⟩) = some (v, ob)) (ho : ∀ p ∈ ob, p.1 = p.2) (ha : VRs (fun _ => none) args args') : Calls Try.prog f args' w (Ret v w) := by
  unfold outO at h
  split at h
  · rename_i u s hr
    obtain ⟨hf, h⟩ := bif_some h
    injection h with h
    injection h with h1 h2
    subst h1 h2
    exact (ev_rel fit hr ho ha hf w).mono fun e w' ⟨h1, h2⟩ => ⟨h1, h2⟩
  · cases h
theorem ret_known {sp : FuncId → Option (List Value → Option Value)} (hsp : Known sp) (fu : Nat) {f : FuncId} {args args' : Array Value} {v : Value} {orc : Orc} {ob : List (Bool × Bool)} (w : World) (h : outO (evCall Try.prog (extW sp) fu f args ⟨.nil, 0, [], orc, []⟩) = some (v, ob)) (ho : ∀ p ∈ ob, p.1 = p.2) (ha : VRs (fun _ => none) args args') : Calls Try.prog f args' w (Ret v w) := by
  unfold outO at h
  split at h
  · rename_i u s hr
    obtain ⟨hf, h⟩ := bif_some h
    injection h with h
    injection h with h1 h2
    subst h1 h2
    exact (ev_rel (fitW hsp) hr ho ha hf w).mono fun e w' ⟨h1, h2⟩ => ⟨h1, h2⟩
  · cases h
theorem ret_tests (fu : Nat) {f : FuncId} {args : Array Value} {v : Value} {orc : Orc} {ob : List (Bool × Bool)} (w : World) (h : outO (evCall Try.prog ext fu f args ⟨.nil, 0, [], orc, []⟩) = some (v, ob)) (ho : ∀ p ∈ ob, p.1 = p.2) (ha : allB free args.toList = true) : Calls Try.prog f args w (Ret v w) :=
  ret_rel fu w h ho (VRs.of_free ha)
end Ev
end Go.Proofs.Ytnahodeffgoccaa
