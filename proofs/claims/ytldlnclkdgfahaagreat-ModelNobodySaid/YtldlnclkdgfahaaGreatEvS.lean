/- The runner over this program. -/
import Derived.Test.YtldlnclkdgfahaaGreatEvQ
import Derived.Test.YtldlnclkdgfahaaGreatEvRe
import Derived.Test.YtldlnclkdgfahaaGreatLib
namespace Go.Proofs.YtldlnclkdgfahaaGreat
open Go.RowKit
namespace Ev

def ext0 : FuncId → Option Ext := fun f =>
   none

theorem noGo : (Tryz.prog.funcs.toList.all fun fn => !(fn.name == "runtime.NumGoroutine")) = true := by kernel_rfl
theorem mixed : Tryz.prog.follows .mixedOrders = true := by kernel_rfl
/-- The program's atomics, and functions of which it is known what they hand back, or do. -/
def extH (sp : FuncId → Option (List Value → Option Value)) (hp : FuncId → Option (Array Value → St → Out)) : FuncId → Option Ext := fun f => match ext0 f with
  | some e => some e
  | none => match sp f with
    | some g => some (.fn g)
    | none => match hp f with
      | some g => some (.hp g)
      | none => none
def noHp : FuncId → Option (Array Value → St → Out) := fun _ => none
def extW (sp : FuncId → Option (List Value → Option Value)) : FuncId → Option Ext := extH sp noHp
/-- What they hand back. -/
def Known (sp : FuncId → Option (List Value → Option Value)) : Prop := ∀ (f : Nat) (g : List Value → Option Value), sp f = some g → (∃ (fn : Func) (c : Code), Tryz.prog.funcs[f]? = some fn ∧ fn.body = some c) ∧
  ∀ (args : Array Value) (v : Value), allB free args.toList = true → g args.toList = some v → ∀ w, Calls Tryz.prog f args w fun e w' => e = .returned v ∧ Below w.heap.size w w'
def KnownH (hp : FuncId → Option (Array Value → St → Out)) : Prop := ∀ (f : Nat) (g : Array Value → St → Out), hp f = some g → Does Tryz.prog f g
theorem noKnownH : KnownH noHp := fun f g h => by cases h
theorem bif_or' {b : Bool} {x e : Ext} {y : Option Ext} (h : (bif b then some x else y) = some e) : (b = true ∧ x = e) ∨ y = some e := by
  cases b with
  | true => exact .inl ⟨rfl, by simpa using h⟩
  | false => exact .inr (by simpa using h)
theorem ext0_at {f : Nat} {e : Ext} (he : ext0 f = some e) : (∀ (kk : IntKind) (c : Nat), e = .at kk c → ∃ fn : Func, Tryz.prog.funcs[f]? = some fn ∧ fn.body.isNone = true ∧ Extern.findNext fn = none ∧
    (c = 0 ∧ Extern.find fn = some (Extern.Atomic.loadT (.int kk)) ∨ c = 1 ∧ Extern.find fn = some Extern.Atomic.storeT ∨
     c = 2 ∧ Extern.find fn = some (Extern.Atomic.update (Op.intArith .add) kk true) ∨ c = 3 ∧ Extern.find fn = some (Extern.Atomic.casT (.int kk)))) ∧
    (∀ n : Nat, e = .mark n → ∃ fn : Func, Tryz.prog.funcs[f]? = some fn ∧ fn.body.isNone = true ∧ Extern.findNext fn = none ∧
    (n = 0 ∧ (∃ m : Mark, Extern.find fn = some (fun _ => do mark m; pure Extern.Race.none_)) ∨ n = 1 ∧ ∃ m : Addr → Mark, Extern.find fn = some (Extern.Race.marked m))) ∧ (∀ g, e ≠ .fn g) ∧ (∀ g, e ≠ .hp g) ∧ (∀ S, e ≠ .tc S) := by
  unfold ext0 at he
  cases he
theorem extH_cases {sp : FuncId → Option (List Value → Option Value)} {hp : FuncId → Option (Array Value → St → Out)} {f : Nat} {e : Ext} (h : extH sp hp f = some e) : ext0 f = some e ∨ (∃ g, sp f = some g ∧ e = .fn g) ∨ ∃ g, hp f = some g ∧ e = .hp g := by
  unfold extH at h
  split at h
  · rename_i e' he'
    injection h with h; subst h
    exact .inl he'
  · split at h
    · rename_i g hg
      injection h with h; subst h
      exact .inr (.inl ⟨g, hg, rfl⟩)
    · split at h
      · rename_i g hg
        injection h with h; subst h
        exact .inr (.inr ⟨g, hg, rfl⟩)
      · cases h
theorem fitH {sp : FuncId → Option (List Value → Option Value)} {hp : FuncId → Option (Array Value → St → Out)} (hsp : Known sp) (hhp : KnownH hp) : Fit Tryz.prog (extH sp hp) := by
  refine ⟨mixed, fun f fn hf => ?_, fun f g hg => ?_, fun f g hg => ?_, fun f S hS => ?_, fun f n hn => ?_, fun f kk e he => ?_⟩
  · have := List.all_eq_true.1 noGo fn (by
      obtain ⟨h, rfl⟩ := Array.getElem?_eq_some_iff.1 hf
      simp)
    simpa using this
  · rcases extH_cases hg with h | ⟨g', h, hx⟩ | ⟨g', h, hx⟩
    · exact ((ext0_at h).2.2.1 g rfl).elim
    · injection hx with hx; subst hx; exact hsp f g h
    · cases hx
  · rcases extH_cases hg with h | ⟨g', h, hx⟩ | ⟨g', h, hx⟩
    · exact ((ext0_at h).2.2.2.1 g rfl).elim
    · cases hx
    · injection hx with hx; subst hx; exact hhp f g h
  · rcases extH_cases hS with h | ⟨g', h, hx⟩ | ⟨g', h, hx⟩
    · exact ((ext0_at h).2.2.2.2 S rfl).elim
    · cases hx
    · cases hx
  · rcases extH_cases hn with h | ⟨g', h, hx⟩ | ⟨g', h, hx⟩
    · exact (ext0_at h).2.1 n rfl
    · cases hx
    · cases hx
  · rcases extH_cases he with h | ⟨g', h, hx⟩ | ⟨g', h, hx⟩
    · exact (ext0_at h).1 kk e rfl
    · cases hx
    · cases hx
theorem fitW {sp : FuncId → Option (List Value → Option Value)} (hsp : Known sp) : Fit Tryz.prog (extW sp) := fitH hsp noKnownH
def noSp : FuncId → Option (List Value → Option Value) := fun _ => none
theorem noKnown : Known noSp := fun f g h => by cases h
def ext1 : FuncId → Option Ext := extW noSp
theorem fit1 : Fit Tryz.prog ext1 := fitW noKnown
/-- Functions with deferred calls. -/
noncomputable def hp0 : FuncId → Option (Array Value → St → Out) := fun f =>
   none
theorem known0 : KnownH hp0 := by
  intro f g h
  unfold hp0 at h
  cases h
/-- Functions that range over functions. -/
noncomputable def ext2 : FuncId → Option Ext := extH noSp hp0
theorem fit2 : Fit Tryz.prog ext2 := fitH noKnown known0
noncomputable def hp1 : FuncId → Option (Array Value → St → Out) := fun f =>
   hp0 f
theorem hp_or {β : Type} {b : Bool} {x e : β} {y : Option β} (h : (bif b then some x else y) = some e) : (b = true ∧ x = e) ∨ y = some e := by
  cases b with
  | true => injection h with h; exact .inl ⟨rfl, h⟩
  | false => exact .inr h
theorem known1 : KnownH hp1 := by
  intro f g h
  unfold hp1 at h
  exact known0 f g h
noncomputable def extS (sp : FuncId → Option (List Value → Option Value)) : FuncId → Option Ext := extH sp hp1
theorem fitS {sp : FuncId → Option (List Value → Option Value)} (hsp : Known sp) : Fit Tryz.prog (extS sp) := fitH hsp known1
noncomputable def ext : FuncId → Option Ext := extS noSp
theorem fit : Fit Tryz.prog ext := fitS noKnown
/-- Some calls are told. -/
def extT (e : FuncId → Option Ext) (tc : FuncId → Bool) : FuncId → Option Ext := fun f => bif tc f then some (.tc (CallSpec Tryz.prog f)) else e f
theorem fitT {e : FuncId → Option Ext} {tc : FuncId → Bool} (F : Fit Tryz.prog e) (hb : ∀ f, tc f = true → ∃ (fn : Func) (c : Code), Tryz.prog.funcs[f]? = some fn ∧ fn.body = some c) : Fit Tryz.prog (extT e tc) := by
  have cs : ∀ {f : Nat} {x : Ext}, extT e tc f = some x → (tc f = true ∧ x = .tc (CallSpec Tryz.prog f)) ∨ e f = some x := fun {f x} h => by
    unfold extT at h
    cases ht : tc f with
    | true => rw [ht] at h; injection h with h; exact .inl ⟨rfl, h.symm⟩
    | false => rw [ht] at h; exact .inr h
  refine ⟨F.mixed, F.go, fun f g hg => ?_, fun f g hg => ?_, fun f S hS => ?_, fun f n hn => ?_, fun f kk x hx => ?_⟩
  · rcases cs hg with ⟨_, h⟩ | h
    · cases h
    · exact F.fn f g h
  · rcases cs hg with ⟨_, h⟩ | h
    · cases h
    · exact F.hp f g h
  · rcases cs hS with ⟨ht, h⟩ | h
    · injection h with h; subst h; exact ⟨hb f ht, fun _ _ _ _ _ _ h => h⟩
    · exact F.tc f S h
  · rcases cs hn with ⟨_, h⟩ | h
    · cases h
    · exact F.mark f n h
  · rcases cs hx with ⟨_, h⟩ | h
    · cases h
    · exact F.ext f kk x h
/-- What the runner says of a call whose result is plain, all tests answered. -/
def out (r : Out) : Option Value := match r with
  | some (v, s) => match s.ob with
    | [] => bif free v && Nat.ble s.n 1000000000 then some v else none
    | _ => none
  | none => none
theorem ret_of (fu : Nat) {f : FuncId} {args : Array Value} {v : Value} (w : World) (h : out (evCall Tryz.prog ext fu f args ⟨.nil, 0, [], ⟨[], [], [], [], []⟩, []⟩) = some v) (ha : allB free args.toList = true) : Calls Tryz.prog f args w (Ret v w) := by
  unfold out at h
  split at h
  · rename_i u s hr
    split at h
    · rename_i ho
      obtain ⟨hf, h⟩ := bif_some h
      injection h with h
      subst h
      exact (ev_rel fit hr (by rw [ho]; simp) (VRs.of_free ha) (Bool.and_eq_true_iff.1 hf).1 (Nat.le_of_ble_eq_true (Bool.and_eq_true_iff.1 hf).2) w).mono fun e w' ⟨h1, h2⟩ => ⟨h1, h2⟩
    · cases h
  · cases h
/-- The same with tests that are answered by what is told. -/
def outO (r : Out) : Option (Value × List (Bool × Bool)) := match r with
  | some (v, s) => bif free v && Nat.ble s.n 1000000000 then some (v, s.ob) else none
  | none => none
theorem ret_rel (fu : Nat) {f : FuncId} {args args' : Array Value} {v : Value} {orc : Orc} {ob : List (Bool × Bool)} (w : World) (h : outO (evCall Tryz.prog ext fu f args ⟨.nil, 0, [], orc, []⟩) = some (v, ob)) (ho : ∀ p ∈ ob, p.1 = p.2) (ha : VRs (fun _ => none) args args') : Calls Tryz.prog f args' w (Ret v w) := by
  unfold outO at h
  split at h
  · rename_i u s hr
    obtain ⟨hf, h⟩ := bif_some h
    injection h with h
    injection h with h1 h2
    subst h1 h2
    exact (ev_rel fit hr ho ha (Bool.and_eq_true_iff.1 hf).1 (Nat.le_of_ble_eq_true (Bool.and_eq_true_iff.1 hf).2) w).mono fun e w' ⟨h1, h2⟩ => ⟨h1, h2⟩
  · cases h
theorem ret_known {sp : FuncId → Option (List Value → Option Value)} (hsp : Known sp) (fu : Nat) {f : FuncId} {args args' : Array Value} {v : Value} {orc : Orc} {ob : List (Bool × Bool)} (w : World) (h : outO (evCall Tryz.prog (extS sp) fu f args ⟨.nil, 0, [], orc, []⟩) = some (v, ob)) (ho : ∀ p ∈ ob, p.1 = p.2) (ha : VRs (fun _ => none) args args') : Calls Tryz.prog f args' w (Ret v w) := by
  unfold outO at h
  split at h
  · rename_i u s hr
    obtain ⟨hf, h⟩ := bif_some h
    injection h with h
    injection h with h1 h2
    subst h1 h2
    exact (ev_rel (fitS hsp) hr ho ha (Bool.and_eq_true_iff.1 hf).1 (Nat.le_of_ble_eq_true (Bool.and_eq_true_iff.1 hf).2) w).mono fun e w' ⟨h1, h2⟩ => ⟨h1, h2⟩
  · cases h
theorem ret_tests (fu : Nat) {f : FuncId} {args : Array Value} {v : Value} {orc : Orc} {ob : List (Bool × Bool)} (w : World) (h : outO (evCall Tryz.prog ext fu f args ⟨.nil, 0, [], orc, []⟩) = some (v, ob)) (ho : ∀ p ∈ ob, p.1 = p.2) (ha : allB free args.toList = true) : Calls Tryz.prog f args w (Ret v w) :=
  ret_rel fu w h ho (VRs.of_free ha)
end Ev
end Go.Proofs.YtldlnclkdgfahaaGreat
