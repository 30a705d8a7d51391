/- The runner over this program. -/
import Derived.Test.YtgnmjjakmeomiaaEvQ
import Derived.Test.YtgnmjjakmeomiaaEvRe
import Derived.Test.YtgnmjjakmeomiaaLib
namespace Go.Proofs.Ytgnmjjakmeomiaa
open Go.RowKit
namespace Ev

def ZnD : FuncId → Option Ext := fun f =>
   none

theorem noGo : (Try.prog.funcs.toList.all fun fn => !(fn.name == "runtime.NumGoroutine")) = true := by kernel_rfl
theorem mixed : Try.prog.follows .mixedOrders = true := by kernel_rfl
def Zlf (sp : FuncId → Option (List Value → Option Value)) (hp : FuncId → Option (Array Value → St → Out)) : FuncId → Option Ext := fun f => match ZnD f with
  | some e => some e
  | none => match sp f with
    | some g => some (.fn g)
    | none => match hp f with
      | some g => some (.hp g)
      | none => none
def noHp : FuncId → Option (Array Value → St → Out) := fun _ => none
def extW (sp : FuncId → Option (List Value → Option Value)) : FuncId → Option Ext := Zlf sp noHp
def ZkF (sp : FuncId → Option (List Value → Option Value)) : Prop := ∀ (f : Nat) (g : List Value → Option Value), sp f = some g → (∃ (fn : Func) (c : Code), Try.prog.funcs[f]? = some fn ∧ fn.body = some c) ∧
  ∀ (args : Array Value) (v : Value), Zu Zdm args.toList = true → g args.toList = some v → ∀ w, Calls Try.prog f args w fun e w' => e = .returned v ∧ Below w.heap.size w w'
def ZkG (hp : FuncId → Option (Array Value → St → Out)) : Prop := ∀ (f : Nat) (g : Array Value → St → Out), hp f = some g → ZjX Try.prog f g
theorem Zo6 : ZkG noHp := fun f g h => by cases h
theorem Zbb {b : Bool} {x e : Ext} {y : Option Ext} (h : (bif b then some x else y) = some e) : (b = true ∧ x = e) ∨ y = some e := by
  cases b with
  | true => exact .inl ⟨rfl, by simpa using h⟩
  | false => exact .inr (by simpa using h)
theorem Zhv {f : Nat} {e : Ext} (he : ZnD f = some e) : (∀ (kk : IntKind) (c : Nat), e = .at kk c → ∃ fn : Func, Try.prog.funcs[f]? = some fn ∧ fn.body.isNone = true ∧ Extern.findNext fn = none ∧
    (c = 0 ∧ Extern.find fn = some (Extern.Atomic.loadT (.int kk)) ∨ c = 1 ∧ Extern.find fn = some Extern.Atomic.storeT ∨
     c = 2 ∧ Extern.find fn = some (Extern.Atomic.update (Op.intArith .add) kk true) ∨ c = 3 ∧ Extern.find fn = some (Extern.Atomic.casT (.int kk)))) ∧
    (∀ n : Nat, e = .mark n → ∃ fn : Func, Try.prog.funcs[f]? = some fn ∧ fn.body.isNone = true ∧ Extern.findNext fn = none ∧
    (n = 0 ∧ (∃ m : Mark, Extern.find fn = some (fun _ => do mark m; pure Extern.Race.none_)) ∨ n = 1 ∧ ∃ m : Addr → Mark, Extern.find fn = some (Extern.Race.marked m))) ∧ (∀ g, e ≠ .fn g) ∧ (∀ g, e ≠ .hp g) ∧ (∀ S, e ≠ .tc S) := by
  unfold ZnD at he
  cases he
theorem ZeV {sp : FuncId → Option (List Value → Option Value)} {hp : FuncId → Option (Array Value → St → Out)} {f : Nat} {e : Ext} (h : Zlf sp hp f = some e) : ZnD f = some e ∨ (∃ g, sp f = some g ∧ e = .fn g) ∨ ∃ g, hp f = some g ∧ e = .hp g := by
  unfold Zlf at h
  split at h
  · rename_i e' he'
    injection h with h; subst h
    exact .inl he'
  · split at h
    · rename_i g hg
      injection h with h; subst h
      exact .inr (.inl ⟨g, hg, rfl⟩)
    · split at h
      · rename_i g hg
        injection h with h; subst h
        exact .inr (.inr ⟨g, hg, rfl⟩)
      · cases h
theorem Zo7 {sp : FuncId → Option (List Value → Option Value)} {hp : FuncId → Option (Array Value → St → Out)} (hsp : ZkF sp) (hhp : ZkG hp) : Fit Try.prog (Zlf sp hp) := by
  refine ⟨mixed, fun f fn hf => ?_, fun f g hg => ?_, fun f g hg => ?_, fun f S hS => ?_, fun f n hn => ?_, fun f kk e he => ?_⟩
  · have := List.all_eq_true.1 noGo fn (by
      obtain ⟨h, rfl⟩ := Array.getElem?_eq_some_iff.1 hf
      simp)
    simpa using this
  · rcases ZeV hg with h | ⟨g', h, hx⟩ | ⟨g', h, hx⟩
    · exact ((Zhv h).2.2.1 g rfl).elim
    · injection hx with hx; subst hx; exact hsp f g h
    · cases hx
  · rcases ZeV hg with h | ⟨g', h, hx⟩ | ⟨g', h, hx⟩
    · exact ((Zhv h).2.2.2.1 g rfl).elim
    · cases hx
    · injection hx with hx; subst hx; exact hhp f g h
  · rcases ZeV hS with h | ⟨g', h, hx⟩ | ⟨g', h, hx⟩
    · exact ((Zhv h).2.2.2.2 S rfl).elim
    · cases hx
    · cases hx
  · rcases ZeV hn with h | ⟨g', h, hx⟩ | ⟨g', h, hx⟩
    · exact (Zhv h).2.1 n rfl
    · cases hx
    · cases hx
  · rcases ZeV he with h | ⟨g', h, hx⟩ | ⟨g', h, hx⟩
    · exact (Zhv h).1 kk e rfl
    · cases hx
    · cases hx
theorem fitW {sp : FuncId → Option (List Value → Option Value)} (hsp : ZkF sp) : Fit Try.prog (extW sp) := Zo7 hsp Zo6
def ZnE : FuncId → Option (List Value → Option Value) := fun _ => none
theorem Zlg : ZkF ZnE := fun f g h => by cases h
def ext1 : FuncId → Option Ext := extW ZnE
theorem fit1 : Fit Try.prog ext1 := fitW Zlg
noncomputable def hp0 : FuncId → Option (Array Value → St → Out) := fun f =>
   none
theorem Zog : ZkG hp0 := by
  intro f g h
  unfold hp0 at h
  cases h
noncomputable def ZiP : FuncId → Option Ext := Zlf ZnE hp0
theorem ZhL : Fit Try.prog ZiP := Zo7 Zlg Zog
noncomputable def hp1 : FuncId → Option (Array Value → St → Out) := fun f =>
  bif Nat.beq f 11 then some (Zgn Try.prog ZiP 20000 11) else
  bif Nat.beq f 13 then some (Zgn Try.prog ZiP 20000 13) else
   hp0 f
theorem ZnF {β : Type} {b : Bool} {x e : β} {y : Option β} (h : (bif b then some x else y) = some e) : (b = true ∧ x = e) ∨ y = some e := by
  cases b with
  | true => injection h with h; exact .inl ⟨rfl, h⟩
  | false => exact .inr h
theorem Zpo : ZkG hp1 := by
  intro f g h
  unfold hp1 at h
  rcases ZnF h with ⟨hb, rfl⟩ | h
  · obtain rfl := Nat.eq_of_beq_eq_true hb; exact ZdI ZhL Try.func11 rfl
  rcases ZnF h with ⟨hb, rfl⟩ | h
  · obtain rfl := Nat.eq_of_beq_eq_true hb; exact ZdI ZhL Try.func13 rfl
  exact Zog f g h
noncomputable def Zo8 (sp : FuncId → Option (List Value → Option Value)) : FuncId → Option Ext := Zlf sp hp1
theorem fitS {sp : FuncId → Option (List Value → Option Value)} (hsp : ZkF sp) : Fit Try.prog (Zo8 sp) := Zo7 hsp Zpo
noncomputable def ext : FuncId → Option Ext := Zo8 ZnE
theorem fit : Fit Try.prog ext := fitS Zlg
def ZnG (e : FuncId → Option Ext) (tc : FuncId → Bool) : FuncId → Option Ext := fun f => bif tc f then some (.tc (Z9 Try.prog f)) else e f
theorem fitT {e : FuncId → Option Ext} {tc : FuncId → Bool} (F : Fit Try.prog e) (hb : ∀ f, tc f = true → ∃ (fn : Func) (c : Code), Try.prog.funcs[f]? = some fn ∧ fn.body = some c) : Fit Try.prog (ZnG e tc) := by
  have cs : ∀ {f : Nat} {x : Ext}, ZnG e tc f = some x → (tc f = true ∧ x = .tc (Z9 Try.prog f)) ∨ e f = some x := fun {f x} h => by
    unfold ZnG at h
    cases ht : tc f with
    | true => rw [ht] at h; injection h with h; exact .inl ⟨rfl, h.symm⟩
    | false => rw [ht] at h; exact .inr h
  refine ⟨F.mixed, F.go, fun f g hg => ?_, fun f g hg => ?_, fun f S hS => ?_, fun f n hn => ?_, fun f kk x hx => ?_⟩
  · rcases cs hg with ⟨_, h⟩ | h
    · cases h
    · exact F.fn f g h
  · rcases cs hg with ⟨_, h⟩ | h
    · cases h
    · exact F.hp f g h
  · rcases cs hS with ⟨ht, h⟩ | h
    · injection h with h; subst h; exact ⟨hb f ht, fun _ _ _ _ _ _ h => h⟩
    · exact F.tc f S h
  · rcases cs hn with ⟨_, h⟩ | h
    · cases h
    · exact F.mark f n h
  · rcases cs hx with ⟨_, h⟩ | h
    · cases h
    · exact F.ext f kk x h
def out (r : Out) : Option Value := match r with
  | some (v, s) => match s.ob with
    | [] => bif Zdm v && Nat.ble s.n 1000000000 then some v else none
    | _ => none
  | none => none
theorem Zpp (fu : Nat) {f : FuncId} {args : Array Value} {v : Value} (w : World) (h : out (Zdf Try.prog ext fu f args ⟨.nil, 0, [], ⟨[], [], [], [], []⟩, []⟩) = some v) (ha : Zu Zdm args.toList = true) : Calls Try.prog f args w (Ret v w) := by
  unfold out at h
  split at h
  · rename_i u s hr
    split at h
    · rename_i ho
      obtain ⟨hf, h⟩ := Zr h
      injection h with h
      subst h
      exact (Zpm fit hr (by rw [ho]; simp) (VRs.of_free ha) (Bool.and_eq_true_iff.1 hf).1 (Nat.le_of_ble_eq_true (Bool.and_eq_true_iff.1 hf).2) w).mono fun e w' ⟨h1, h2⟩ => ⟨h1, h2⟩
    · cases h
  · cases h
end Ev
end Go.Proofs.Ytgnmjjakmeomiaa
