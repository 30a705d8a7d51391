/- Part 2. -/
import Derived.Test.YtldlnclkdgfahaaGreatZaa
import Derived.Orders
import Derived.LoopN
import Derived.Scope
import Derived.Defers
import Derived.RangeFuncLeaves
import Derived.OrdersIn
import Derived.LoopNIn
import Derived.TacticsIn
import Derived.RangeFuncRecord
/- The runner against the model: code and calls. -/
namespace Go.Proofs.YtldlnclkdgfahaaGreat
open Go.RowKit
namespace Ev

/-! ### Numbers rise, and answers stay -/
theorem Zm {a b : List (Bool × Bool)} (h : a <:+ b) (hb : ∀ p ∈ b, p.1 = p.2) : ∀ p ∈ a, p.1 = p.2 := fun p hp => hb p (h.subset hp)
structure Up (s s' : St) : Prop where
 n : s.n ≤ s'.n
 ob : s.ob <:+ s'.ob
 log : ∃ l, s'.wr = l ++ s.wr ∧ ∀ k, k ∉ l → ¬ (s.n ≤ k ∧ k < s'.n) → s'.h.get k = s.h.get k
theorem Up.refl (s : St) : Up s s := ⟨Nat.le_refl _, List.suffix_refl _, [], rfl, fun _ _ _ => rfl⟩
theorem Up.trans {a b c : St} (h : Up a b) (k : Up b c) : Up a c := by
 obtain ⟨l, h1, h2⟩ := h.log
 obtain ⟨m, k1, k2⟩ := k.log
 refine ⟨Nat.le_trans h.n k.n, h.ob.trans k.ob, m ++ l, by rw [k1, h1, List.append_assoc], fun j hj hn => ?_⟩
 have := h.n
 have := k.n
 rw [k2 j (fun e => hj (List.mem_append_left _ e)) (by omega), h2 j (fun e => hj (List.mem_append_right _ e)) (by omega)]
theorem Zbc {s s1 : St} {t b : Bool} (h : s.tst t = (b, s1)) : Up s s1 := by
 unfold St.tst at h
 split at h <;> (injection h with h1 h2; subst h1 h2)
 ·exact Up.refl _
 ·exact ⟨Nat.le_refl _, List.suffix_refl _, [], rfl, fun _ _ _ => rfl⟩
 ·exact ⟨Nat.le_refl _, List.suffix_cons _ _, [], rfl, fun _ _ _ => rfl⟩
theorem Zhu {s s1 : St} {x y : Int} (h : s.vst x = (y, s1)) : Up s s1 := by
 unfold St.vst at h
 split at h <;> (injection h with h1 h2; subst h1 h2)
 ·exact Up.refl _
 ·exact ⟨Nat.le_refl _, List.suffix_refl _, [], rfl, fun _ _ _ => rfl⟩
 ·exact ⟨Nat.le_refl _, List.suffix_cons _ _, [], rfl, fun _ _ _ => rfl⟩
theorem Zo {s s1 : St} {k o : Nat} {l : List Value} (h : Zx s k o l = some s1) : Up s s1 := by
 unfold Zx at h
 split at h
 ·replace h := Zb h
  obtain ⟨_, h⟩ := h
  injection h with h
  subst h
  refine ⟨Nat.le_refl _, List.suffix_refl _, [k], rfl, fun j hj _ => ?_⟩
  show (s.h.set k _).get j = _
  rw [Tr.get_set, Za (by simpa using hj)]
 ·cases h
section
variable {P : Program} {ρ : Operand → Value} {s s' : St} {v : Value}
theorem Zl {o : Oper} (h : ZH P ρ o s = some (v, s')) : Up s s' := by
 unfold ZH at h
 replace h := (Zb h).2
 split at h
 ·replace h := (Zb h).2
  injection h with h; injection h with h1 h2; subst h1 h2; exact Up.refl _
 ·cases h
theorem up_add {c : List Value} {t : TypeId} : Up s (s.add c t) := ⟨Nat.le_succ _, List.suffix_refl _, [], rfl, fun j _ hn => by
 show (s.h.set s.n _).get j = _
 rw [Tr.get_set, Za (fun e => hn ⟨by omega, by show j < s.n + 1; omega⟩)]⟩
theorem up_turn {k : Nat} {c : List Value} {t : TypeId} : Up s (s.turn k c t) := ⟨Nat.le_succ _, List.suffix_refl _, [k], rfl, fun j hj hn => by
 show ((s.h.set k none).set s.n _).get j = _
 rw [Tr.get_set, Za (fun e => hn ⟨by omega, by show j < s.n + 1; omega⟩), Tr.get_set, Za (by simpa using hj)]⟩
theorem Zgz {t tx : TypeId} {x y : Value} (h : Z2 P s t tx x y = some (v, s')) : Up s s' := by
 unfold Z2 at h
 try simp only [cond_eq_ite] at h
 repeat' (split at h)
 all_goals first
  | (cases h; done)
  | (injection h with h; injection h with h1 h2; subst h1 h2; first | exact Up.refl _ | exact up_add | exact up_turn | exact Zo (by assumption))
  | exact Zl h
theorem Zel {t n : Nat} {ps : Array (Nat × Operand)} (h : Zah P ρ t n ps s = some (v, s')) : Up s s' := by
 unfold Zah at h
 try simp only [cond_eq_ite] at h
 repeat' (split at h)
 all_goals first
  | (cases h; done)
  | (injection h with h; injection h with h1 h2; subst h1 h2; first | exact Up.refl _ | exact up_add | exact up_turn | exact Zo (by assumption))
  | exact Zl h
theorem ZgK {t : Nat} {ps : Array (Nat × Operand)} (h : ZbV P ρ t ps s = some (v, s')) : Up s s' := by
 unfold ZbV at h
 try simp only [cond_eq_ite] at h
 repeat' (split at h)
 all_goals first
  | (cases h; done)
  | (injection h with h; injection h with h1 h2; subst h1 h2; first | exact Up.refl _ | exact up_add | exact up_turn | exact Zo (by assumption))
  | exact Zl h
theorem ZgL {t : Nat} {a x : Operand} (h : ZaK P ρ t a x s = some (v, s')) : Up s s' := by
 unfold ZaK at h
 try simp only [cond_eq_ite] at h
 repeat' (split at h)
 all_goals first
  | (cases h; done)
  | (injection h with h; injection h with h1 h2; subst h1 h2; first | exact Up.refl _ | exact up_add | exact up_turn | exact Zo (by assumption))
  | exact Zl h
theorem ZeF {t f : Nat} {x : Operand} (h : Zav P ρ t x f s = some (v, s')) : Up s s' := by
 unfold Zav at h
 try simp only [cond_eq_ite] at h
 repeat' (split at h)
 all_goals first
  | (cases h; done)
  | (injection h with h; injection h with h1 h2; subst h1 h2; first | exact Up.refl _ | exact up_add | exact up_turn | exact Zo (by assumption))
  | exact Zl h
theorem ZgM {t f : Nat} {x : Operand} (h : ZbX P ρ t x f s = some (v, s')) : Up s s' := by
 unfold ZbX at h
 try simp only [cond_eq_ite] at h
 repeat' (split at h)
 all_goals first
  | (cases h; done)
  | (injection h with h; injection h with h1 h2; subst h1 h2; first | exact Up.refl _ | exact up_add | exact up_turn | exact Zo (by assumption))
  | exact Zl h
theorem ZgN {t : Nat} {x ix : Operand} (h : ZbY P ρ t x ix s = some (v, s')) : Up s s' := by
 unfold ZbY at h
 try simp only [cond_eq_ite] at h
 repeat' (split at h)
 all_goals first
  | (cases h; done)
  | (injection h with h; injection h with h1 h2; subst h1 h2; first | exact Up.refl _ | exact up_add | exact up_turn | exact Zo (by assumption))
  | exact Zl h
theorem ZcF {t : Nat} {x ix : Operand} (h : ZO P ρ t x ix s = some (v, s')) : Up s s' := by
 unfold ZO at h
 try simp only [cond_eq_ite] at h
 repeat' (split at h)
 all_goals first
  | (cases h; done)
  | (injection h with h; injection h with h1 h2; subst h1 h2; first | exact Up.refl _ | exact up_add | exact up_turn | exact Zo (by assumption))
  | exact Zl h
theorem Zdm {t : Nat} {x : Operand} {lo hi : Option Operand} (h : Zab P ρ t x lo hi s = some (v, s')) : Up s s' := by
 unfold Zab at h
 try simp only [cond_eq_ite] at h
 repeat' (split at h)
 all_goals first
  | (cases h; done)
  | (injection h with h; injection h with h1 h2; subst h1 h2; first | exact Up.refl _ | exact up_add | exact up_turn | exact Zo (by assumption))
  | exact Zl h
theorem ZeG {t : Nat} {l c : Operand} (h : ZP P ρ t l c s = some (v, s')) : Up s s' := by
 unfold ZP at h
 try simp only [cond_eq_ite] at h
 repeat' (split at h)
 all_goals first
  | (cases h; done)
  | (injection h with h; injection h with h1 h2; subst h1 h2; first | exact Up.refl _ | exact up_add | exact up_turn | exact Zo (by assumption))
  | exact Zl h
theorem Zd4 {a b : TypeId} {x : Operand} (h : Za5 P ρ a b x s = some (v, s')) : Up s s' := by
 unfold Za5 at h
 try simp only [cond_eq_ite] at h
 repeat' (split at h)
 all_goals first
  | (cases h; done)
  | (injection h with h; injection h with h1 h2; subst h1 h2; first | exact Up.refl _ | exact up_add | exact up_turn | exact Zo (by assumption))
  | exact Zl h
theorem ZeH {o : Oper} {op : BinOp} {t : TypeId} {x y : Operand} (h : ZaR P ρ o op t x y s = some (v, s')) : Up s s' := by
 unfold ZaR at h
 split at h
 ·injection h with h; injection h with h1 h2; subst h1 h2; exact Up.refl _
 ·injection h with h; injection h with h1 h2; subst h1 h2; exact Up.refl _
 split at h
 ·rename_i r hr
  injection h with h; subst h
  exact Zl hr
 ·split at h <;> first | (cases h; done) | (injection h with h; injection h with h1 h2; subst h1 h2; exact Up.refl _)
theorem Zg {s s1 : St} {a : Option Zex} (h : s.nextW = (a, s1)) : Up s s1 := by
 unfold St.nextW at h
 split at h <;> (injection h with h1 h2; subst h1 h2; exact ⟨Nat.le_refl _, List.suffix_refl _, [], rfl, fun _ _ _ => rfl⟩)
theorem Zi (q : Bool) : Up s (s.told q) := ⟨Nat.le_refl _, List.suffix_cons _ _, [], rfl, fun _ _ _ => rfl⟩
theorem up_putK {k : Nat} {c : List Value} {t : TypeId} : Up s (s.putK k c t) := ⟨Nat.le_refl _, List.suffix_refl _, [k], rfl, fun j hj _ => by
 show (s.h.set k _).get j = _
 rw [Tr.get_set, Za (by simpa using hj)]⟩
theorem Zg0 {t : Nat} {a x : Operand} {c : List Value} (h : Zb3 P ρ t a x c s = some (v, s')) : Up s s' := by
 unfold Zb3 at h
 try simp only [cond_eq_ite] at h
 repeat' (split at h)
 all_goals first
  | (cases h; done)
  | (injection h with h; injection h with h1 h2; subst h1 h2; exact up_putK.trans (Zi _))
theorem Zhg {x y : Operand} (h : Zc5 ρ x y s = some (v, s')) : Up s s' := by
 unfold Zc5 at h
 split at h
 ·injection h with h; injection h with h1 h2; subst h1 h2; exact Zi _
 ·cases h
theorem Zhv {op : BinOp} {x y : Operand} {n : Nat} (h : ZcS ρ op x y n s = some (v, s')) : Up s s' := by
 unfold ZcS at h
 split at h
 ·injection h with h; injection h with h1 h2; subst h1 h2; exact Zi _
 ·injection h with h; injection h with h1 h2; subst h1 h2; exact Zi _
 ·cases h
theorem Zg1 {x y : Operand} (h : Zdt ρ x y s = some (v, s')) : Up s s' := by
 unfold Zdt at h
 split at h
 ·injection h with h; injection h with h1 h2; subst h1 h2; exact Zi _
 ·cases h
theorem Zg2 {t : Nat} {x : Operand} {lo hi : Option Operand} {l m : Nat} (h : Zb6 P ρ t x lo hi l m s = some (v, s')) : Up s s' := by
 unfold Zb6 at h
 try simp only [cond_eq_ite] at h
 repeat' (split at h)
 all_goals first
  | (cases h; done)
  | (injection h with h; injection h with h1 h2; subst h1 h2; exact ((Zi _).trans (Zi _)).trans (Zi _))
theorem Zfq {a b : TypeId} {x : Operand} {ns : List Int} (h : ZaA P ρ a b x ns s = some (v, s')) : Up s s' := by
 unfold ZaA at h
 repeat' (split at h)
 all_goals first
  | (cases h; done)
  | (injection h with h; injection h with h1 h2; subst h1 h2; exact Zi _)
theorem Zhh {t : Nat} {x : Operand} {lo hi : Option Operand} {m : Nat} {c : List Value} (h : Zc4 P ρ t x lo hi m c s = some (v, s')) : Up s s' := by
 unfold Zc4 at h
 try simp only [cond_eq_ite] at h
 repeat' (split at h)
 all_goals first
  | (cases h; done)
  | (injection h with h; injection h with h1 h2; subst h1 h2; exact ((up_turn.trans (Zi _)).trans (Zi _)).trans (Zi _))
theorem ZgO {t : Nat} {l c : Operand} {n cp : Nat} {cs : List Value} (h : Zca P ρ t l c n cp cs s = some (v, s')) : Up s s' := by
 unfold Zca at h
 try simp only [cond_eq_ite] at h
 repeat' (split at h)
 all_goals first
  | (cases h; done)
  | (injection h with h; injection h with h1 h2; subst h1 h2; exact ((up_add.trans (Zi _)).trans (Zi _)).trans (Zi _))
theorem ZfP {t tx : TypeId} {x y : Value} {m : Nat} {l c : List Value} (h : ZbW P s t tx x y m l c = some (v, s')) : Up s s' := by
 unfold ZbW at h
 try simp only [cond_eq_ite] at h
 repeat' (split at h)
 all_goals first
  | (cases h; done)
  | (injection h with h; injection h with h1 h2; subst h1 h2; first | exact up_add.trans (Zi _) | exact up_turn.trans (Zi _))
theorem Zfr {t tx : TypeId} {x y : Value} {m : Nat} {l c : List Value} (h : Zb4 P s t tx x y m l c = some (v, s')) : Up s s' := by
 unfold Zb4 at h
 try simp only [cond_eq_ite] at h
 repeat' (split at h)
 all_goals first
  | (cases h; done)
  | (injection h with h; injection h with h1 h2; subst h1 h2; exact up_putK.trans (Zi _))
theorem Zfs {t tx : TypeId} {x y : Value} (h : Zb5 P s t tx x y = some (v, s')) : Up s s' := by
 unfold Zb5 at h
 try simp only [cond_eq_ite] at h
 repeat' (split at h)
 all_goals first
  | (cases h; done)
  | (injection h with h; injection h with h1 h2; subst h1 h2; exact Zi _)
theorem ZfQ {kk : IntKind} {e : Nat} {args : Array Value} {z : Int} {c : List Value} (h : ZaT kk e args z c s = some (v, s')) : Up s s' := by
 unfold ZaT at h
 repeat' (split at h)
 all_goals first
  | (cases h; done)
  | (injection h with h; injection h with h1 h2; subst h1 h2; first | exact Zi _ | exact up_putK.trans (Zi _) | exact ((Zi _).trans (Zbc (by assumption))) | exact (((Zi _).trans (Zbc (by assumption))).trans up_putK).trans (Zi _))
theorem Zhi {O : Obj} : Up s (s.addM O) := ⟨Nat.le_succ _, List.suffix_refl _, [], rfl, fun j _ hn => by
 show (s.h.set s.n _).get j = _
 rw [Tr.get_set, Za (by intro e; subst e; exact hn ⟨Nat.le_refl _, Nat.lt_succ_self _⟩)]⟩
theorem up_putM {k : Nat} {O : Obj} : Up s (s.putM k O) := ⟨Nat.le_refl _, List.suffix_refl _, [k], rfl, fun j hj _ => by
 show (s.h.set k _).get j = _
 rw [Tr.get_set, Za (by intro e; subst e; exact hj (List.mem_singleton.2 rfl))]⟩
theorem ZgP {t : TypeId} {x : Value} (h : Zcc P s t x = some (v, s')) : Up s s' := by
 unfold Zcc at h
 repeat' (split at h)
 all_goals first
  | (cases h; done)
  | (injection h with h; injection h with h1 h2; subst h1 h2; first | exact Up.refl _ | exact up_putM)
theorem Zg3 {t : TypeId} {x k : Value} (h : Zb8 P s t x k = some (v, s')) : Up s s' := by
 unfold Zb8 at h
 repeat' (split at h)
 all_goals first
  | (cases h; done)
  | skip
 all_goals (replace h := (Zb h).2)
 all_goals first
  | (cases h; done)
  | (injection h with h; injection h with h1 h2; subst h1 h2; exact up_putM)
theorem ZfR {t : TypeId} {r : Option Operand} (h : ZaW P ρ t r s = some (v, s')) : Up s s' := by
 unfold ZaW at h
 repeat' (split at h)
 all_goals first
  | (cases h; done)
  | (injection h with h; injection h with h1 h2; subst h1 h2; exact Zhi)
theorem Zg4 {t : TypeId} {x ix : Operand} {ok : Bool} (h : Za2 P ρ t x ix ok s = some (v, s')) : Up s s' := by
 unfold Za2 at h
 repeat' (split at h)
 all_goals first
  | (cases h; done)
  | skip
 all_goals (replace h := (Zb h).2)
 all_goals first
  | (cases h; done)
  | (replace h := (Zb h).2; injection h with h; injection h with h1 h2; subst h1 h2; exact Up.refl _)
theorem ZfS {t : TypeId} {x ix : Operand} {ok : Bool} {r : Option Value} (h : ZaU P ρ t x ix ok r s = some (v, s')) : Up s s' := by
 unfold ZaU at h
 repeat' (split at h)
 all_goals first
  | (cases h; done)
  | skip
 replace h := (Zb h).2
 injection h with h; injection h with h1 h2; subst h1 h2; exact Zi _
theorem Zg5 {t : TypeId} {m k x : Operand} (h : Za3 P ρ t m k x s = some (v, s')) : Up s s' := by
 unfold Za3 at h
 repeat' (split at h)
 all_goals first
  | (cases h; done)
  | skip
 all_goals (replace h := (Zb h).2)
 all_goals first
  | (cases h; done)
  | (injection h with h; injection h with h1 h2; subst h1 h2; exact up_putM)
theorem ZfT {t : TypeId} {m k x : Operand} {l : List MapEntry} (h : ZaV P ρ t m k x l s = some (v, s')) : Up s s' := by
 unfold ZaV at h
 repeat' (split at h)
 all_goals first
  | (cases h; done)
  | skip
 replace h := (Zb h).2
 injection h with h; injection h with h1 h2; subst h1 h2; exact up_putM.trans (Zi _)
theorem ZfU {o : Oper} {c : Call} {b : Builtin} (h : ZaX P ρ o c b s = some (v, s')) : Up s s' := by
 unfold ZaX at h
 split at h
 ·split at h
  ·split at h
   ·exact (Zg (by assumption)).trans (ZfP h)
   ·exact (Zg (by assumption)).trans (Zfr h)
   ·exact (Zg (by assumption)).trans (Zfs h)
   ·cases h
   ·exact (Zg (by assumption)).trans (Zgz h)
  ·cases h
 ·split at h
  ·split at h
   ·injection h with h; injection h with h1 h2; subst h1 h2; exact Up.refl _
   ·split at h
    ·injection h with h; injection h with h1 h2; subst h1 h2; exact Up.refl _
    ·cases h
   ·exact Zl h
  ·cases h
 ·split at h
  ·exact Zg3 h
  ·cases h
 ·split at h
  ·exact ZgP h
  ·cases h
 ·exact Zl h
theorem ZeI {s s1 : St} {a : Option Nat} (h : s.nextX = (a, s1)) : Up s s1 := by
 unfold St.nextX at h
 split at h <;> (injection h with h1 h2; subst h1 h2)
 ·exact Up.refl _
 ·exact ⟨Nat.le_refl _, List.suffix_refl _, [], rfl, fun _ _ _ => rfl⟩
theorem ZeJ {s s1 : St} {a : Option (List Cell)} (h : s.nextL = (a, s1)) : Up s s1 := by
 unfold St.nextL at h
 split at h <;> (injection h with h1 h2; subst h1 h2)
 ·exact Up.refl _
 ·exact ⟨Nat.le_refl _, List.suffix_refl _, [], rfl, fun _ _ _ => rfl⟩
theorem up_told {s : St} {q : Bool} : Up s (s.told q) := ⟨Nat.le_refl _, List.suffix_cons _ _, [], rfl, fun _ _ _ => rfl⟩
theorem Zem {t : Nat} {x ix : Operand} {i : Nat} (h : Zai P ρ t x ix i s = some (v, s')) : Up s s' := by
 unfold Zai at h
 repeat' (split at h)
 all_goals first
  | (cases h; done)
  | (injection h with h; injection h with h1 h2; subst h1 h2; exact up_told.trans up_told)
theorem ZgQ {t : Nat} {a : Operand} {l : List Cell} (h : ZbZ P ρ t a l s = some (v, s')) : Up s s' := by
 unfold ZbZ at h
 repeat' (split at h)
 all_goals first
  | (cases h; done)
  | (injection h with h; injection h with h1 h2; subst h1 h2; exact up_told)
theorem ZcG {t : Nat} {x : Operand} {lo hi : Option Operand} (h : Zb7 P ρ t x lo hi s = some (v, s')) : Up s s' := by
 unfold Zb7 at h
 split at h
 ·split at h
  ·replace h := (Zb h).2
   split at h
   ·injection h with h; injection h with h1 h2; subst h1 h2; exact Zbc (by assumption)
   ·cases h
  ·cases h
 ·cases h
theorem Zf2 {o : Oper} {t : Nat} {x : Operand} {lo hi : Option Operand} (h : ZfC P ρ o t x lo hi s = some (v, s')) : Up s s' := by
 unfold ZfC at h
 split at h
 ·exact (Zg (by assumption)).trans (Zg2 h)
 ·exact (Zg (by assumption)).trans (Zhh h)
 ·cases h
 ·split at h
  ·injection h with h; subst h; exact (Zg (by assumption)).trans (Zdm (by assumption))
  ·split at h
   ·injection h with h; subst h; exact (Zg (by assumption)).trans (ZcG (by assumption))
   ·exact (Zg (by assumption)).trans (Zl h)
theorem Zhw {o : Oper} (h : ev1 P ρ o s = some (v, s')) : Up s s' := by
 unfold ev1 at h
 split at h
 all_goals first
  | exact Zf2 h | exact Zel h | exact ZgK h | exact ZeF h | exact ZgM h | exact ZcF h | exact ZeH h | exact Zg1 h | exact Zl h
  | (injection h with h; injection h with h1 h2; subst h1 h2; first | exact Up.refl _ | exact up_add)
  | (cases h; done)
  | skip
 ·split at h
  ·split at h <;> (injection h with h; injection h with h1 h2; subst h1 h2; exact Up.refl _)
  ·cases h
 all_goals (repeat' (split at h))
 all_goals first
  | (cases h; done)
  | exact (Zg (by assumption)).trans (Zg0 h)
  | exact (Zg (by assumption)).trans (ZgL h)
  | exact (Zg (by assumption)).trans (Zhg h)
  | exact (Zg (by assumption)).trans (Zhv h)
  | exact (Zg (by assumption)).trans (ZeH h)
  | exact Zg1 h
  | exact ZeH h
  | exact ZfR h
  | exact (Zg (by assumption)).trans (ZfS h)
  | exact (Zg (by assumption)).trans (Zg4 h)
  | exact (Zg (by assumption)).trans (ZfT h)
  | exact (Zg (by assumption)).trans (Zg5 h)
  | exact Zf2 h
  | exact (Zg (by assumption)).trans (ZgO h)
  | exact (Zg (by assumption)).trans (Zfq h)
  | exact (Zg (by assumption)).trans (Zd4 h)
  | exact (Zg (by assumption)).trans (ZeG h)
  | exact (Zg (by assumption)).trans (Zl h)
  | (injection h with h; subst h; first | exact (Zg (by assumption)).trans (Zdm (by assumption)) | exact (Zg (by assumption)).trans (ZcG (by assumption)))
  | exact (ZeJ (by assumption)).trans (ZgQ h)
  | exact (ZeI (by assumption)).trans (Zem h)
  | exact (ZeI (by assumption)).trans (ZcF h)
  | (injection h with h; injection h with h1 h2; subst h1 h2; exact ZeJ (by assumption))
  | exact ZfU h
  | exact Zl h
  | (injection h with h; injection h with h1 h2; subst h1 h2; first | exact Up.refl _ | exact up_add)
  | (injection h with h; subst h; first | exact ZgN (by assumption) | exact Zdm (by assumption) | exact ZcG (by assumption) | exact Zd4 (by assumption))
theorem Zhj {n : Nat} {args : Array Value} (h : Zc6 n args s = some (v, s')) : Up s s' := by
 unfold Zc6 at h
 split at h
 ·injection h with h; injection h with h1 h2; subst h1 h2; exact Up.refl _
 ·injection h with h; injection h with h1 h2; subst h1 h2; exact Up.refl _
 ·cases h
theorem Zg6 {kk : IntKind} {e : Nat} {args : Array Value} (h : ZG kk e args s = some (v, s')) : Up s s' := by
 unfold ZG at h
 repeat' (split at h)
 all_goals first
  | (cases h; done)
  | (injection h with h; injection h with h1 h2; subst h1 h2; first | exact Up.refl _ | exact Zo (by assumption) | exact Zbc (by assumption) | exact (Zbc (by assumption)).trans (Zo (by assumption)))
theorem Zf3 {o : Oper} {v1 : Value} {s1 : St} (h : Ze3 o v s = (v1, s1)) : Up s s1 := by
 unfold Ze3 at h
 split at h
 all_goals first
  | (generalize hq : s.tst _ = q at h; obtain ⟨b, s2⟩ := q; simp only [Prod.mk.injEq] at h; obtain ⟨rfl, rfl⟩ := h; exact Zbc hq)
  | (generalize hq : s.vst _ = q at h; obtain ⟨b, s2⟩ := q; simp only [Prod.mk.injEq] at h; obtain ⟨rfl, rfl⟩ := h; exact Zhu hq)
  | (simp only [Prod.mk.injEq] at h; obtain ⟨rfl, rfl⟩ := h; exact Up.refl _)
end
end Ev
end Go.Proofs.YtldlnclkdgfahaaGreat
/- The runner against the model: code and calls. -/
namespace Go.Proofs.YtldlnclkdgfahaaGreat
open Go.RowKit
namespace Ev

def ZcX (P : Program) (ι : Ren) (s : St) (w : World) (v : Value) (s' : St) (e : Ending) (w' : World) : Prop :=
  ∃ v' ι', e = .returned v' ∧ Step P ι s.h.get w ι' s'.h.get w' ∧ Dom ι ι' s.n s'.n ∧ VR ι' v v'
structure ZdI (P : Program) (f : FuncId) (g : Array Value → St → Out) : Prop where
  body : ∃ (fn : Func) (c : Code), P.funcs[f]? = some fn ∧ fn.body = some c
  up : ∀ args s v s', g args s = some (v, s') → Up s s'
  does : ∀ args s v s', g args s = some (v, s') → (∀ p ∈ s'.ob, p.1 = p.2) → ∀ ι w args', VRs ι args args' → Emb P ι s.h.get w → Fresh ι s.n s'.n → Calls P f args' w (ZcX P ι s w v s')
def Zdn (P : Program) (f : FuncId) (args : Array Value) (pre : List (Nat × AObj)) (v : Value) (post : List (Nat × Option AObj)) (n dn : Nat) : Prop :=
  ∀ ι w args', VRs ι args args' → Emb P ι (fun k => Zt k pre) w → Fresh ι n (n + dn) → Calls P f args' w fun e w' => ∃ v' ι', e = .returned v' ∧ Step P ι (fun k => Zt k pre) w ι' (behind pre post) w' ∧ Dom ι ι' n (n + dn) ∧ VR ι' v v'
structure Fit (P : Program) (ext : FuncId → Option Ext) : Prop where
  mixed : P.follows .mixedOrders = true
  go : ∀ (f : Nat) (fn : Func), P.funcs[f]? = some fn → (fn.name == "runtime.NumGoroutine") = false
  fn : ∀ (f : Nat) (g : List Value → Option Value), ext f = some (.fn g) → (∃ (fn : Func) (c : Code), P.funcs[f]? = some fn ∧ fn.body = some c) ∧ ∀ (args : Array Value) (v : Value), Ze ZF args.toList = true → g args.toList = some v → ∀ w, Calls P f args w fun e w' => e = .returned v ∧ Below w.heap.size w w'
  hp : ∀ (f : Nat) (g : Array Value → St → Out), ext f = some (.hp g) → ZdI P f g
  tc : ∀ (f : Nat) (S : Array Value → List (Nat × AObj) → Value → List (Nat × Option AObj) → Nat → Nat → Prop), ext f = some (.tc S) → (∃ (fn : Func) (c : Code), P.funcs[f]? = some fn ∧ fn.body = some c) ∧ ∀ args pre v post n dn, S args pre v post n dn → Zdn P f args pre v post n dn
  mark : ∀ (f : Nat) (n : Nat), ext f = some (.mark n) → ∃ fn : Func, P.funcs[f]? = some fn ∧ fn.body.isNone = true ∧ Extern.findNext fn = none ∧
    (n = 0 ∧ (∃ m : Mark, Extern.find fn = some (fun _ => do mark m; pure Extern.Race.none_)) ∨ n = 1 ∧ ∃ m : Addr → Mark, Extern.find fn = some (Extern.Race.marked m))
  ext : ∀ (f : Nat) (kk : IntKind) (e : Nat), ext f = some (.at kk e) → ∃ fn : Func, P.funcs[f]? = some fn ∧ fn.body.isNone = true ∧ Extern.findNext fn = none ∧
    (e = 0 ∧ Extern.find fn = some (Extern.Atomic.loadT (.int kk)) ∨ e = 1 ∧ Extern.find fn = some Extern.Atomic.storeT ∨
     e = 2 ∧ Extern.find fn = some (Extern.Atomic.update (Op.intArith .add) kk true) ∨ e = 3 ∧ Extern.find fn = some (Extern.Atomic.casT (.int kk)))
section
variable {P : Program} {ext : FuncId → Option Ext}

theorem up_fn {g : List Value → Option Value} {args : Array Value} {s s' : St} {v : Value} (h : ZfD g args s = some (v, s')) : Up s s' := by
  unfold ZfD at h
  replace h := (Zb h).2
  split at h
  · replace h := (Zb h).2
    injection h with h; injection h with h1 h2; subst h1 h2; exact Up.refl _
  · cases h
theorem Zct {α : Type} {b : Bool} {x : Option α} {y : α} (h : (bif b then none else x) = some y) : b = false ∧ x = some y := by
  cases b with
  | true => simp at h
  | false => exact ⟨rfl, by simpa using h⟩
theorem Zz {ops : Array Oper} {T : Tr Value} {o : Oper} {s s' : St} {b : Bool} (h : Zac ops T o s = some (b, s')) : Up s s' := by
  unfold Zac at h
  split at h
  · injection h with h; injection h with h1 h2; subst h1 h2; exact Up.refl _
  · split at h
    · split at h
      · injection h with h; injection h with h1 h2; subst h1 h2; exact Up.refl _
      · injection h with h; injection h with h1 h2; subst h1 h2; exact Up.refl _
      · cases h
    · cases h
theorem ZbJ {h : Tr AObj} (k : Nat) : ∀ (t : List Nat), (ZbF h t).get k = if k ∈ t then h.get k else none
  | [] => by simp [ZbF, Tr.get_nil]
  | j :: t => by
    rw [ZbF, Tr.get_set]
    by_cases hk : k = j
    · subst hk; rw [Zc]; simp
    · rw [Za hk, ZbJ k t]
      simp [hk]
theorem ZcH {r h : Tr AObj} (k : Nat) : ∀ (t : List Nat), (ZcV r t h).get k = if k ∈ t then r.get k else h.get k
  | [] => by simp [ZcV]
  | j :: t => by
    rw [ZcV, Tr.get_set]
    by_cases hk : k = j
    · subst hk; rw [Zc]; simp
    · rw [Za hk, ZcH k t]
      simp [hk]
section
variable {P : Program}
/-! ### What is elsewhere stays -/
noncomputable def join (h x : AH) : AH := fun k => match h k with | some o => some o | none => x k
theorem ZL {h x : AH} {k : Nat} (hk : (h k).isSome) : join h x k = h k := by
  unfold join
  cases he : h k with
  | none => rw [he] at hk; cases hk
  | some o => rfl
theorem Z0 {h x : AH} {k : Nat} (hk : h k = none) : join h x k = x k := by unfold join; rw [hk]
theorem Emb.sub {ι : Ren} {h g : AH} {w : World} (e : Emb P ι g w) (hs : ∀ k o, h k = some o → g k = some o) : Emb P ι h w := by
  have iso : ∀ k, (h k).isSome → (g k).isSome := fun k hk => by
    cases he : h k with
    | none => rw [he] at hk; cases hk
    | some o => rw [hs k o he]; rfl
  have isoC : ∀ k, isC (h k) = true → isC (g k) = true := fun k hk => by
    cases he : h k with
    | none => rw [he] at hk; cases hk
    | some o => rw [hs k o he, ← he]; exact hk
  exact ⟨fun k c t hk => e.obj k c t (hs k _ hk), fun k O hk => e.ro k O (hs k _ hk), fun k k' b b' h1 h2 => e.inj k k' b b' (isoC k h1) (iso k' h2), e.lt⟩
theorem Step.framed {ι ι' : Ren} {h h' x : AH} {w w' : World} (st : Step P ι h w ι' h' w') (e : Emb P ι (join h x) w) (hx : ∀ k, (x k).isSome → h k = none) :
    Step P ι (join h x) w ι' (join h' x) w' := by
  have hl : ∀ k, (h k).isSome → (join h x k).isSome := fun k hk => by rw [ZL hk]; exact hk
  have hlC : ∀ k, isC (h k) = true → isC (join h x k) = true := fun k hk => by rw [ZL (Z3 hk)]; exact hk
  have xlC : ∀ k, isC (x k) = true → isC (join h x k) = true := fun k hk => by rw [Z0 (hx k (Z3 hk))]; exact hk
  have xl : ∀ k, (x k).isSome → (join h x k).isSome := fun k hk => by rw [Z0 (hx k hk)]; exact hk
  have parts : ∀ k, (join h' x k).isSome → (h' k).isSome ∨ (h' k = none ∧ (x k).isSome) := fun k hk => by
    cases he : h' k with
    | some o => exact .inl rfl
    | none => rw [Z0 he] at hk; exact .inr ⟨rfl, hk⟩
  have partsC : ∀ k, isC (join h' x k) = true → isC (h' k) = true ∨ (h' k = none ∧ isC (x k) = true) := fun k hk => by
    cases he : h' k with
    | some o => rw [ZL (by rw [he]; rfl), he] at hk; exact .inl hk
    | none => rw [Z0 he] at hk; exact .inr ⟨rfl, hk⟩
  have xι : ∀ k, (x k).isSome → ∃ b, ι k = some b ∧ ι' k = some b := fun k hk => by
    obtain ⟨b, hb⟩ := e.live (xl k hk)
    exact ⟨b, hb, st.ext k b hb⟩
  refine ⟨st.ext, ⟨fun k c t hk => ?_, fun k O hk => ?_, fun k k' b b' h1 h2 h3 h4 h5 => ?_, st.emb.lt⟩, st.os, st.tape, st.output, st.size, fun b hb hno => st.frame b hb fun k c hk => hno k c (hlC k hk), fun k b h1 h2 => ?_, fun k h1 h2 => ?_, fun k h1 h2 => ?_⟩
  · rcases parts k (by rw [hk]; rfl) with h1 | ⟨h1, h2⟩
    · rw [ZL h1] at hk
      exact st.emb.obj k c t hk
    · rw [Z0 h1] at hk
      obtain ⟨b, C, hb, hB, hC, hQ⟩ := e.obj k c t (by rw [Z0 (hx k h2)]; exact hk)
      refine ⟨b, C, st.ext k b hb, ?_, hC.ext st.ext, hQ⟩
      rw [st.frame b.1 (e.lt k b hb)]
      · exact hB
      · intro j d hj hd he
        have : j = k := e.inj j k d b (hlC j hj) (xl k h2) hd hb he
        subst this
        rw [hx j h2] at hj
        cases hj
  · rcases parts k (by rw [hk]; rfl) with h1 | ⟨h1, h2⟩
    · rw [ZL h1] at hk
      exact st.emb.ro k O hk
    · rw [Z0 h1] at hk
      obtain ⟨b, hb, hB⟩ := e.ro k O (by rw [Z0 (hx k h2)]; exact hk)
      refine ⟨b, st.ext k b hb, ?_⟩
      rw [st.frame b.1 (e.lt k b hb)]
      · exact hB
      · intro j d hj hd he
        have : j = k := e.inj j k d b (hlC j hj) (xl k h2) hd hb he
        subst this
        rw [hx j h2] at hj
        cases hj
  · -- one of h', one of x
    have mixed : ∀ {k k' : Nat} {b b' : Nat × Nat}, (h' k).isSome → (x k').isSome → (isC (h' k) = true ∨ isC (x k') = true) → ι' k = some b → ι' k' = some b' → b.1 = b'.1 → k = k' := fun {k k' b b'} h1 h2 hor h3 h4 h5 => by
      obtain ⟨c, hc, hc'⟩ := xι k' h2
      rw [h4] at hc'; injection hc' with hc'; subst hc'
      cases hk : ι k with
      | some d =>
        have e1 := st.ext k d hk
        rw [h3] at e1; injection e1 with e1; subst e1
        rcases hor with hC | hC
        · exact e.inj k k' b b' (hlC k (st.kind k hC (by rw [hk]; simp))) (xl k' h2) hk hc h5
        · exact (e.inj k' k b' b (xlC k' hC) (hl k (st.alive k h1 (by rw [hk]; simp))) hc hk h5.symm).symm
      | none =>
        rcases st.new k b hk h3 with h6 | ⟨j, d, hj, hd, he⟩
        · have := e.lt k' b' hc
          omega
        · have : j = k' := e.inj j k' d b' (hlC j hj) (xl k' h2) hd hc (he.trans h5)
          subst this
          rw [hx j h2] at hj
          cases hj
    rcases partsC k h1 with q1 | ⟨_, q1⟩ <;> rcases parts k' h2 with q2 | ⟨_, q2⟩
    · exact st.emb.inj k k' b b' q1 q2 h3 h4 h5
    · exact mixed (Z3 q1) q2 (.inl q1) h3 h4 h5
    · exact (mixed q2 (Z3 q1) (.inr q1) h4 h3 h5.symm).symm
    · obtain ⟨c, hc, hc'⟩ := xι k (Z3 q1)
      obtain ⟨d, hd, hd'⟩ := xι k' q2
      rw [h3] at hc'; injection hc' with hc'; subst hc'
      rw [h4] at hd'; injection hd' with hd'; subst hd'
      exact e.inj k k' b b' (xlC k q1) (xl k' q2) hc hd h5
  · rcases st.new k b h1 h2 with h3 | ⟨j, c, hj, hc⟩
    · exact .inl h3
    · exact .inr ⟨j, c, hlC j hj, hc⟩
  · rcases parts k h1 with q1 | ⟨_, q1⟩
    · exact hl k (st.alive k q1 h2)
    · exact xl k q1
  · rcases partsC k h1 with q1 | ⟨_, q1⟩
    · exact hlC k (st.kind k q1 h2)
    · exact xlC k q1

end
theorem ZcI (h : Tr AObj) : ∀ (l : List (Nat × Option AObj)) (k : Nat), (ZcT h l).get k = match Zt k l with | some o => o | none => h.get k
  | [], k => rfl
  | x :: l, k => by
    show ((ZcT h l).set x.1 x.2).get k = _
    rw [Tr.get_set]
    unfold Zt
    by_cases hk : k = x.1
    · subst hk
      rw [Zc, Nat.beq_refl]
      rfl
    · rw [Za hk, ZcI h l k, ZbB (fun e => hk e.symm)]
      rfl
theorem Zdo {α : Type} {k : Nat} {o : α} : ∀ {l : List (Nat × α)}, Zt k l = some o → (k, o) ∈ l
  | [], h => by cases h
  | x :: l, h => by
    unfold Zt at h
    cases hb : Nat.beq x.1 k with
    | true =>
      rw [hb] at h
      injection h with h
      have := Nat.eq_of_beq_eq_true hb
      obtain ⟨a, b⟩ := x
      subst this h
      exact List.mem_cons_self
    | false =>
      rw [hb] at h
      exact List.mem_cons_of_mem _ (Zdo h)
theorem Zde {pre : List (Nat × AObj)} {n n' : Nat} : ∀ {post : List (Nat × Option AObj)}, Zdu pre n n' post = true → ∀ k o, Zt k post = some o → (Zt k pre).isSome ∨ (o.isSome ∧ n ≤ k ∧ k < n')
  | [], _, k, o, h => by cases h
  | x :: l, hk, k, o, h => by
    simp only [Zdu, Bool.and_eq_true, Bool.or_eq_true] at hk
    unfold Zt at h
    cases hb : Nat.beq x.1 k with
    | true =>
      rw [hb] at h
      injection h with h
      have := Nat.eq_of_beq_eq_true hb
      subst this h
      rcases hk.1 with h1 | ⟨h0, h1, h2⟩
      · exact .inl h1
      · exact .inr ⟨h0, Nat.le_of_ble_eq_true h1, Nat.le_of_ble_eq_true h2⟩
    | false => rw [hb] at h; exact Zde hk.2 k o h
theorem Zcf {s : St} : ∀ (l : List (Nat × AObj)), s.ob <:+ ZcU s l
  | [] => List.suffix_refl _
  | x :: l => (Zcf l).trans (List.suffix_cons _ _)
theorem Zdf {s : St} : ∀ {l : List (Nat × AObj)} {x : Nat × AObj}, x ∈ l → (AObj.sameAs (s.h.get x.1) x.2, true) ∈ ZcU s l
  | y :: l, x, h => by
    rcases List.mem_cons.1 h with rfl | h
    · exact List.mem_cons_self
    · exact List.mem_cons_of_mem _ (Zdf h)
theorem Zft {o : Option AObj} {p : AObj} (h : AObj.sameAs o p = true) : o = some p := by
  unfold AObj.sameAs at h
  split at h
  · rename_i c t c' t'
    cases hb : Nat.beq t t' with
    | true =>
      rw [hb] at h
      rw [Nat.eq_of_beq_eq_true hb, Zk.1 h]
    | false => rw [hb] at h; cases h
  · rw [Zk.1 h]
  · rw [Zk.1 h]
  · cases h
theorem Zhk {S : Array Value → List (Nat × AObj) → Value → List (Nat × Option AObj) → Nat → Nat → Prop} {args : Array Value} {pre : List (Nat × AObj)} {u v : Value} {post : List (Nat × Option AObj)} {dn : Nat} {s s' : St} (h : Ze4 S args pre u post dn s = some (v, s')) : Up s s' := by
  unfold Ze4 at h
  replace h := (Zb h).2
  injection h with h
  injection h with h1 h2
  subst h1 h2
  refine ⟨Nat.le_add_right _ _, (Zcf pre).trans (List.suffix_cons _ _), _, rfl, fun k hk _ => ?_⟩
  show (ZcT s.h post).get k = _
  rw [ZcI]
  cases hl : Zt k post with
  | none => rfl
  | some o => exact absurd (List.mem_map.2 ⟨_, Zdo hl, rfl⟩) hk
theorem ZfV {P : Program} {f : FuncId} {S : Array Value → List (Nat × AObj) → Value → List (Nat × Option AObj) → Nat → Nat → Prop} (hS : ∀ args pre v post n dn, S args pre v post n dn → Zdn P f args pre v post n dn) {args args' : Array Value} {pre : List (Nat × AObj)} {u v : Value} {post : List (Nat × Option AObj)} {dn : Nat} {s s' : St} (h : Ze4 S args pre u post dn s = some (v, s')) (ho : ∀ p ∈ s'.ob, p.1 = p.2)
    {ι : Ren} {w : World} (ha : VRs ι args args') (he : Emb P ι s.h.get w) (hf : Fresh ι s.n s'.n) : Calls P f args' w (ZcX P ι s w v s') := by
  unfold Ze4 at h
  obtain ⟨hg, h⟩ := Zb h
  simp only [Bool.and_eq_true] at hg
  injection h with h
  injection h with h1 h2
  subst h1 h2
  have hc := hS _ _ _ _ _ _ (Zk.1 (ho _ List.mem_cons_self))
  have hpre : ∀ k o, Zt k pre = some o → s.h.get k = some o := fun k o hk => Zft (ho (AObj.sameAs (s.h.get k) o, true) (List.mem_cons_of_mem _ (Zdf (x := (k, o)) (Zdo hk))))
  let x : AH := fun k => if (Zt k pre).isSome then none else s.h.get k
  have hx : ∀ k, (x k).isSome → (fun k => Zt k pre) k = none := fun k hk => by
    show Zt k pre = none
    cases hl : Zt k pre with
    | none => rfl
    | some o => simp [x, hl] at hk
  have e1 : join (fun k => Zt k pre) x = s.h.get := funext fun k => by
    cases hl : Zt k pre with
    | none => rw [Z0 hl]; simp [x, hl]
    | some o => rw [ZL (h := fun k => Zt k pre) (by simp [hl])]; simp only [hl]; exact (hpre k o hl).symm
  have e2 : join (behind pre post) x = (ZcT s.h post).get := funext fun k => by
    rw [ZcI]
    cases hl : Zt k post with
    | some o =>
      cases o with
      | some o =>
        have hb : behind pre post k = some o := by unfold behind; rw [hl]
        rw [ZL (by rw [hb]; rfl), hb]
      | none =>
        have hb : behind pre post k = none := by unfold behind; rw [hl]
        rw [Z0 hb]
        rcases Zde hg.1 k none hl with h1 | ⟨h1, _⟩
        · simp [x, h1]
        · cases h1
    | none =>
      have hb : behind pre post k = Zt k pre := by unfold behind; rw [hl]
      cases hp : Zt k pre with
      | none => rw [Z0 (by rw [hb, hp])]; simp [x, hp]
      | some o => rw [ZL (by rw [hb, hp]; rfl), hb, hp]; exact (hpre k o hp).symm
  refine (hc ι w args' ha (he.sub fun k o hk => hpre k o hk) hf).mono ?_
  rintro e w' ⟨v', ι', rfl, g1, g2, g3⟩
  have := g1.framed (x := x) (by rw [e1]; exact he) hx
  rw [e1, e2] at this
  exact ⟨v', ι', rfl, this, g2, g3⟩
theorem ZB (hup : ∀ (f : Nat) (g : Array Value → St → Out), ext f = some (.hp g) → ∀ args s v s', g args s = some (v, s') → Up s s') : ∀ fu : Nat, (∀ nt c T s e T' s', Zf P ext nt fu c T s = some (e, T', s') → Up s s') ∧ (∀ nt ops l T s T' s', ZaE P ext nt fu ops l T s = some (T', s') → Up s s') ∧
    (∀ ρ o s v s', Za4 P ext fu ρ o s = some (v, s') → Up s s') ∧ (∀ f args s v s', ZA P ext fu f args s = some (v, s') → Up s s') ∧ (∀ nt ops done l T s es T' s', ZK P ext nt fu ops done l T s = some (es, T', s') → Up s s') ∧ (∀ ρ o s v s' r, Zbk P ext fu ρ o s = some (v, s', r) → Up s s') := by
  intro fu
  induction fu with
  | zero => exact ⟨fun _ _ _ _ _ _ _ h => by simp [Zf] at h, fun _ _ _ _ _ _ _ h => by simp [ZaE, St.keep_eq] at h, fun _ _ _ _ _ h => by simp [Za4] at h, fun _ _ _ _ _ h => by simp [ZA] at h, fun _ _ _ _ _ _ _ _ _ h => by simp [ZK, St.keep_eq] at h, fun _ _ _ _ _ _ h => by simp [Zbk] at h⟩
  | succ fu ih =>
    obtain ⟨ihC, ihO, ihP, ihF, ihD, ihE⟩ := ih
    refine ⟨fun nt c T s e T' s' h => ?_, fun nt ops l T s T' s' h => ?_, fun ρ o s v s' h => ?_, fun f args s v s' h => ?_, fun nt ops done l T s es T' s' h => ?_, fun ρ o s v s' r h => ?_⟩
    · cases c <;> simp only [Zf] at h
      case skip => injection h with h; simp only [Prod.mk.injEq] at h; obtain ⟨_, _, rfl⟩ := h; exact Up.refl _
      case label l => injection h with h; simp only [Prod.mk.injEq] at h; obtain ⟨_, _, rfl⟩ := h; exact Up.refl _
      case scope c => exact ihC _ _ _ _ _ _ _ h
      case ret => injection h with h; simp only [Prod.mk.injEq] at h; obtain ⟨_, _, rfl⟩ := h; exact Up.refl _
      case exit id => injection h with h; simp only [Prod.mk.injEq] at h; obtain ⟨_, _, rfl⟩ := h; exact Up.refl _
      case seq a b =>
        split at h
        · exact (ihC _ _ _ _ _ _ _ (by assumption)).trans (ihC _ _ _ _ _ _ _ h)
        · injection h with h; simp only [Prod.mk.injEq] at h; obtain ⟨_, _, rfl⟩ := h; exact ihC _ _ _ _ _ _ _ (by assumption)
        · injection h with h; simp only [Prod.mk.injEq] at h; obtain ⟨_, _, rfl⟩ := h; exact ihC _ _ _ _ _ _ _ (by assumption)
        · cases h
      case cond x a b =>
        split at h
        · split at h
          · exact ihC _ _ _ _ _ _ _ h
          · exact ihC _ _ _ _ _ _ _ h
        · cases h
      case block id a =>
        split at h
        · rename_i i T1 s1 h1
          cases hb : Nat.beq i id <;> rw [hb] at h <;> (injection h with h; simp only [Prod.mk.injEq] at h; obtain ⟨_, _, rfl⟩ := h; exact ihC _ _ _ _ _ _ _ (by assumption))
        · injection h with h; simp only [Prod.mk.injEq] at h; obtain ⟨_, _, rfl⟩ := h; exact ihC _ _ _ _ _ _ _ (by assumption)
        · injection h with h; simp only [Prod.mk.injEq] at h; obtain ⟨_, _, rfl⟩ := h; exact ihC _ _ _ _ _ _ _ (by assumption)
        · cases h
      case loop a =>
        split at h
        · exact (ihC _ _ _ _ _ _ _ (by assumption)).trans (ihC _ _ _ _ _ _ _ h)
        · injection h with h; simp only [Prod.mk.injEq] at h; obtain ⟨_, _, rfl⟩ := h; exact ihC _ _ _ _ _ _ _ (by assumption)
        · injection h with h; simp only [Prod.mk.injEq] at h; obtain ⟨_, _, rfl⟩ := h; exact ihC _ _ _ _ _ _ _ (by assumption)
        · cases h
      case region id ops draw =>
        cases draw with
        | true =>
          simp only [cond_true] at h
          split at h
          · injection h with h; simp only [Prod.mk.injEq] at h; obtain ⟨_, _, rfl⟩ := h; exact ihD _ _ _ _ _ _ _ _ _ (by assumption)
          · cases h
        | false =>
          simp only [cond_false] at h
          split at h
          · injection h with h; simp only [Prod.mk.injEq] at h; obtain ⟨_, _, rfl⟩ := h; exact ihO _ _ _ _ _ _ _ (by assumption)
          · cases h
      all_goals cases h
    · cases l with
      | nil => simp only [ZaE, St.keep_eq] at h; injection h with h; simp only [Prod.mk.injEq] at h; obtain ⟨_, rfl⟩ := h; exact Up.refl _
      | cons o l =>
        simp only [ZaE, St.keep_eq] at h
        replace h := (Zb h).2
        split at h
        · split at h
          · exact (Zz (by assumption)).trans ((ihP _ _ _ _ _ (by assumption)).trans (ihO _ _ _ _ _ _ _ h))
          · cases h
        · exact (Zz (by assumption)).trans (ihO _ _ _ _ _ _ _ h)
        · cases h
    · simp only [Za4] at h
      split at h
      · split at h
        · split at h
          · split at h
            · exact (Zg (by assumption)).trans (ZfQ h)
            · cases h
            · exact (Zg (by assumption)).trans (Zg6 h)
          · exact Zhj h
          · exact hup _ _ (by assumption) _ _ _ _ h
          · split at h
            · exact (Zg (by assumption)).trans (Zhk h)
            · cases h
          · exact up_fn h
          · exact ihF _ _ _ _ _ h
        · cases h
      · split at h
        · rename_i v1 s1 h1
          injection h with h
          exact (Zhw h1).trans (Zf3 h)
        · cases h
    · simp only [ZA] at h
      split at h
      · split at h
        · replace h := (Zb h).2
          split at h
          · cases h
          · split at h
            · injection h with h; simp only [Prod.mk.injEq] at h; obtain ⟨_, rfl⟩ := h; exact ihC _ _ _ _ _ _ _ (by assumption)
            · injection h with h; simp only [Prod.mk.injEq] at h; obtain ⟨_, rfl⟩ := h; exact ihC _ _ _ _ _ _ _ (by assumption)
            · cases h
          · cases h
        · cases h
      · cases h
    · cases l with
      | nil => simp only [ZK, St.keep_eq] at h; injection h with h; simp only [Prod.mk.injEq] at h; obtain ⟨_, _, rfl⟩ := h; exact Up.refl _
      | cons o l =>
        simp only [ZK, St.keep_eq] at h
        replace h := (Zb h).2
        split at h
        · split at h
          · replace h := (Zb h).2
            exact (Zz (by assumption)).trans ((ihE _ _ _ _ _ _ (by assumption)).trans (ihD _ _ _ _ _ _ _ _ _ h))
          · cases h
        · replace h := (Zb h).2
          exact (Zz (by assumption)).trans (ihD _ _ _ _ _ _ _ _ _ h)
        · cases h
    · simp only [Zbk] at h
      split at h
      · split at h
        · rename_i v1 s1 h1
          replace h := (Zb h).2
          injection h with h; simp only [Prod.mk.injEq] at h; obtain ⟨_, rfl, _⟩ := h
          have u := ihP _ _ _ _ _ h1
          obtain ⟨l, e1, e2⟩ := u.log
          simp only [List.append_nil] at e1
          exact ⟨u.n, u.ob, l, by rw [e1], e2⟩
        · cases h
      · replace h := (Zb h).2
        generalize (Za6 s ρ o).1 = w at h
        generalize (Za6 s ρ o).2 = t at h
        generalize Zcd ρ o = q at h
        split at h
        · rename_i v1 s1 h1
          obtain ⟨hg, h⟩ := Zb h
          injection h with h; simp only [Prod.mk.injEq] at h; obtain ⟨_, rfl, _⟩ := h
          have u := ihP _ _ _ _ _ h1
          obtain ⟨l, e1, e2⟩ := u.log
          simp only [List.append_nil] at e1
          refine ⟨u.n, u.ob, l, by rw [e1], fun k hk hn => ?_⟩
          show (Tr.set _ _ _).get k = _
          rw [Tr.get_set]
          by_cases hkn : k = s.n
          · subst hkn
            rw [Zc]
            have hn' : ¬ s.n < s1.n := fun e => hn ⟨Nat.le_refl _, e⟩
            have : s1.n = s.n := by have := u.n; simp only at this; omega
            rw [ZbC this]
            rfl
          · rw [Za hkn]
            cases w with
            | false => rfl
            | true =>
              simp only [cond_true]
              rw [ZcH]
              split
              · rename_i hm
                rw [e2 k hk hn, ZbJ, if_pos (List.mem_append_left _ hm)]
              · rfl
        · cases h
end
end Ev
end Go.Proofs.YtldlnclkdgfahaaGreat
/- The runner against the model: what it says holds in every world. -/
namespace Go.Proofs.YtldlnclkdgfahaaGreat
open Go.RowKit
namespace Ev
section
variable {P : Program} {ext : FuncId → Option Ext}

def Ex.out : Ex → Exit
 | .normal => .normal
 | .exit id => .exit id
 | .ret => .ret
def TR (ι : Ren) (nt : Nat) (D : List Deferred) (T : Tr Value) (a : Act) : Prop := a.tmps.size = nt ∧ a.defers = D ∧ ∀ t, VR ι ((T.get t).getD undef) (a.tmps.getD t undef)
theorem TR.on {ι ι' : Ren} {nt : Nat} {D : List Deferred} {T : Tr Value} {a : Act} (h : TR ι nt D T a) (hi : ∀ k b, ι k = some b → ι' k = some b) : TR ι' nt D T a := ⟨h.1, h.2.1, fun t => (h.2.2 t).ext hi⟩
theorem VR.undef' {ι : Ren} : VR ι undef undef := VR.of_free rfl
theorem TR.put {ι : Ren} {nt : Nat} {D : List Deferred} {T : Tr Value} {a : Act} (h : TR ι nt D T a) {dst : Option Tmp} (hd : Za1 nt dst = true) {v v' : Value} (hv : VR ι v v') : TR ι nt D (ZQ T dst v) (a.put dst v') := by
 cases dst with
 | none => exact h
 | some d =>
  have hlt : d < a.tmps.size := by
   rw [h.1]
   simpa [Za1, Nat.blt_eq] using hd
  refine ⟨by simp [Act.put, h.1], h.2.1, fun t => ?_⟩
  simp only [ZQ, Tr.get_set, Act.put]
  by_cases ht : t = d
  ·subst ht
   rw [Zc]
   simp [Array.getD, hlt]
   exact hv
  ·rw [Za ht]
   have : (a.tmps.setIfInBounds d v').getD t undef = a.tmps.getD t undef := by
    simp [Array.getD_eq_getD_getElem?, Array.getElem?_setIfInBounds_ne (fun e => ht e.symm)]
   rw [this]
   exact h.2.2 t
def Zv (a : Act) : Operand → Value
 | .const v => bif ZF v then v else undef
 | x => a.eval x
theorem TR.opnd {ι : Ren} {nt : Nat} {D : List Deferred} {T : Tr Value} {a : Act} (h : TR ι nt D T a) (x : Operand) : VR ι (Ev.opnd T x) (Zv a x) := by
 cases x with
 | tmp t => exact h.2.2 t
 | const v =>
  simp only [Ev.opnd, Zv]
  cases hf : ZF v
  ·exact VR.undef'
  ·exact VR.of_free hf
 | global g => exact .glob rfl
 | func f => exact .atom rfl
theorem Zbd {a : Act} {o : Oper} (hs : ∀ cs b, o.op ≠ .select cs b) (hg : Ze Zau o.op.operands.toList = true) : execOp (Zv a) o = execOp a.eval o :=
 execOp_congr o hs fun x hx => by
  have := Zj hg x (by simpa using hx)
  cases x with
  | const v =>
   simp only [Zau] at this
   simp [Zv, this, Act.eval]
  | _ => rfl
theorem Zar {a : Act} {x : Operand} {t : Bool} (h : Zv a x = .bool t) : a.eval x = .bool t := by
 cases x with
 | const v =>
  simp only [Zv] at h
  cases hf : ZF v <;> rw [hf] at h
  ·simp [undef] at h
  ·exact h
 | _ => exact h
theorem ZU {ι : Ren} {T : Tr Value} {a : Act} {ops : Array Oper} {o : Oper} {s s' : St} {b : Bool} (h : ∀ t ∈ o.looksAt ops, VR ι ((T.get t).getD undef) (a.tmps.getD t undef)) (hw : Zac ops T o s = some (b, s')) :
  Region.wanted o (yielded ops a.tmps) = b ∧ s'.h = s.h ∧ s'.n = s.n := by
 unfold Zac at hw
 unfold Region.wanted
 split at hw
 ·rename_i hg
  injection hw with hw; injection hw with h1 h2; subst h1 h2
  rw [hg]
  exact ⟨rfl, rfl, rfl⟩
 ·rename_i j want hg
  rw [hg]
  simp only
  split at hw
  ·rename_i d hd
   have hv := h d (by unfold Oper.looksAt; rw [hg]; simp [hd])
   split at hw
   ·rename_i q hq
    rw [hq] at hv
    have hv' := hv.bool_inv
    have hget : a.tmps[d]? = some (.bool q) := by
     simp only [Array.getD_eq_getD_getElem?] at hv'
     cases hx : a.tmps[d]? with
     | none => rw [hx] at hv'; simp [undef] at hv'
     | some u => rw [hx] at hv'; simpa using hv'
    have hy : yielded ops a.tmps j = some q := by
     unfold yielded
     rw [hd]
     simp [hget]
    rw [hy]
    injection hw with hw; injection hw with h1 h2; subst h1 h2
    exact ⟨by cases q <;> cases want <;> rfl, rfl, rfl⟩
   ·rename_i u hq
    injection hw with hw; injection hw with h1 h2; subst h1 h2
    rw [hq] at hv
    refine ⟨?_, rfl, rfl⟩
    have hy : yielded ops a.tmps j = none := by
     unfold yielded
     rw [hd]
     simp only [Option.bind_some]
     split
     ·rename_i c hc
      exfalso
      simp only [Array.getD_eq_getD_getElem?, hc, Option.getD_some] at hv
      cases hv
     ·rfl
    rw [hy]
    rfl
   ·cases hw
  ·cases hw
def Zcg (tmps : Array Value) : ResultVar → Sem Value
 | .tmp t => pure (tmps.getD t undef)
 | .cell b t => do loadVar t (← asAddr (tmps.getD b undef))
theorem Zbg {ι : Ren} {nt : Nat} {D : List Deferred} {T : Tr Value} {a : Act} {s : St} {w : World} (h : TR ι nt D T a) (he : Emb P ι s.h.get w) : ∀ (rs : List ResultVar) (l : List Value), Zp P T s rs = some l →
  ∃ l' : List Value, (rs.mapM (Zcg a.tmps)).run P w = .ok l' w ∧ l.length = l'.length ∧ ∀ (i : Nat) x y, l[i]? = some x → l'[i]? = some y → VR ι x y
 | [], l, hr => by
  simp only [Zp, Option.some.injEq] at hr
  subst hr
  exact ⟨[], by simp [Sem.run], rfl, fun i x y hx => by simp at hx⟩
 | .tmp t :: rs, l, hr => by
  simp only [Zp] at hr
  split at hr
  ·rename_i r hr'
   injection hr with hr
   subst hr
   obtain ⟨l', h1, h2, h3⟩ := Zbg h he rs r hr'
   refine ⟨a.tmps.getD t undef :: l', ?_, by simp [h2], fun i x y hx hy => ?_⟩
   ·have e0 : (Zcg a.tmps (.tmp t)).run P w = .ok (a.tmps.getD t undef) w := rfl
    simp only [List.mapM_cons, Sem.run_bind, e0, Result.andThen, h1]
    rfl
   ·cases i with
    | zero => simp at hx hy; subst hx hy; simpa using h.2.2 t
    | succ i => exact h3 i x y (by simpa using hx) (by simpa using hy)
  ·cases hr
 | .cell b t :: rs, l, hr => by
  simp only [Zp] at hr
  split at hr
  ·rename_i k o hb
   split at hr
   ·rename_i u r hu hr'
    injection hr with hr
    subst hr
    obtain ⟨l', h1, h2, h3⟩ := Zbg h he rs r hr'
    obtain ⟨bk, v', hbk, hrun, hv⟩ := Zc0 he hu
    have hp := h.2.2 b
    rw [hb] at hp
    obtain ⟨bk', hbk', hp'⟩ := hp.ptr_inv
    rw [hbk] at hbk'; injection hbk' with hbk'; subst hbk'
    refine ⟨v' :: l', ?_, by simp [h2], fun i x y hx hy => ?_⟩
    ·have e0 : (Zcg a.tmps (.cell b t)).run P w = .ok v' w := by
      simp [Zcg, hp', asAddr, hrun, -Array.getD_eq_getD_getElem?]
     simp only [List.mapM_cons, Sem.run_bind, e0, Result.andThen, h1]
     rfl
    ·cases i with
     | zero => simp at hx hy; subst hx hy; exact hv
     | succ i => exact h3 i x y (by simpa using hx) (by simpa using hy)
   ·cases hr
  ·cases hr
theorem ZR {ι : Ren} {nt : Nat} {D : List Deferred} {T : Tr Value} {a : Act} {s : St} {w : World} {fn : Func} {v : Value} (h : TR ι nt D T a) (he : Emb P ι s.h.get w)
  (hr : (match Zp P T s fn.results.toList with | some [v] => some v | some vs => some (.tuple vs.toArray) | none => none) = some v) : ∃ v', (results fn a.tmps).run P w = .ok v' w ∧ VR ι v v' := by
 have hR : results fn a.tmps = (do let vs ← fn.results.mapM (Zcg a.tmps); pure (if h : vs.size = 1 then vs[0] else .tuple vs)) := rfl
 cases hx : Zp P T s fn.results.toList with
 | none => rw [hx] at hr; cases hr
 | some l =>
  rw [hx] at hr
  obtain ⟨l', h1, h2, h3⟩ := Zbg h he fn.results.toList l hx
  have hA : (fn.results.mapM (Zcg a.tmps)).run P w = .ok l'.toArray w := by
   rw [Array.mapM_eq_mapM_toList]
   simp [h1]
  rw [hR]
  rcases l with _ | ⟨x, _ | ⟨y, l⟩⟩
  ·injection hr with hr
   subst hr
   have : l' = [] := List.eq_nil_of_length_eq_zero (by simpa using h2.symm)
   subst this
   exact ⟨.tuple #[], by simp [hA], .tuple rfl fun i x y hx => by simp at hx⟩
  ·injection hr with hr
   subst hr
   rcases l' with _ | ⟨x', _ | ⟨y', l'⟩⟩
   ·simp at h2
   ·exact ⟨x', by simp [hA], h3 0 x x' rfl rfl⟩
   ·simp at h2
  ·injection hr with hr
   subst hr
   have hne : ¬ l'.length = 1 := by simp at h2; omega
   exact ⟨.tuple l'.toArray, by simp [hA, hne], .tuple (by simpa using h2) fun i x y hx hy => h3 i x y (by simpa using hx) (by simpa using hy)⟩
end
end Ev
end Go.Proofs.YtldlnclkdgfahaaGreat
/- The runner against the model: what it says holds in every world. -/
namespace Go.Proofs.YtldlnclkdgfahaaGreat
open Go.RowKit
namespace Ev
section
variable {P : Program} {ext : FuncId → Option Ext}

theorem ZE {f : FuncId} {fn : Func} {c : Code} (hf : P.funcs[f]? = some fn) (hn : (fn.name == "runtime.NumGoroutine") = false) (hb : fn.body = some c) (args : Array Value) (w : World) :
  (callFunc f args).run P w = .ok (.enter f args) w := by
 have h1 : fn.name ≠ "runtime.NumGoroutine" := by simpa using hn
 simp [callFunc, hf, h1, hb]
theorem Zhl {ι : Ren} {s : St} {w : World} (he : Emb P ι s.h.get w) {k o : Nat} {kk : IntKind} {v : Int} (h : ZJ s k o 1 = some [.int kk v]) : ∃ b C t, ι k = some b ∧ w.heap[b.1]? = some (.cells C t (0, 0)) ∧ w.cell? ⟨b.1, o, none⟩ = some (.int kk v) ∧ w.frozen? ⟨b.1, o, none⟩ = false := by
 obtain ⟨b, C, t, hb, hB, hl, hx⟩ := Zcp he h
 obtain ⟨y, hy, hv⟩ := hx 0 _ rfl
 refine ⟨b, C, t, hb, hB, ?_, by simp only [World.frozen?, hB]; simp⟩
 rw [cell_of_row w b.1 o C t (0, 0) hB]
 simpa [hv.int_inv] using hy
theorem ZdJ {w : World} {b o : Nat} {C : Array Value} {t : TypeId} {x : Value} (hB : w.heap[b]? = some (.cells C t (0, 0))) (ho : o < C.size) : w.setRow b (C.toList.take o ++ [x] ++ C.toList.drop (o + 1)).toArray = w.setCell ⟨b, o, none⟩ x := by
 have e : (C.toList.take o ++ [x] ++ C.toList.drop (o + 1)).toArray = C.setIfInBounds o x := by
  apply Array.ext'
  simp only [Array.toList_setIfInBounds]
  rw [List.set_eq_take_append_cons_drop, if_pos (by simpa using ho)]
  simp
 rw [e]
 unfold World.setRow World.setCell
 congr 1
 apply Array.ext
 ·simp
 ·intro i h1 h2
  simp only [Array.getElem_modify]
  split
  ·rename_i hi
   subst hi
   have hlt : b < w.heap.size := (Array.getElem?_eq_some_iff.1 hB).1
   have : w.heap[b] = .cells C t (0, 0) := by
    have := Array.getElem?_eq_getElem hlt
    rw [hB] at this
    exact (Option.some.inj this).symm
   simp [this]
  ·rfl
theorem ZcJ {ι : Ren} {s s' : St} {w : World} (he : Emb P ι s.h.get w) {k o : Nat} {x : Int} {kk : IntKind} (h : Zx s k o [.int kk x] = some s') {b : Nat × Nat} (hb : ι k = some b) :
  Step P ι s.h.get w ι s'.h.get (w.setCell ⟨b.1, o, none⟩ (.int kk x)) ∧ s'.n = s.n := by
 obtain ⟨b2, w', hb2, _, hstep, hn, ⟨C, t, hB, hfit, hw⟩, _⟩ := Zbf he (c := #[.int kk x]) h rfl (fun i a b h1 h2 => by
  rcases i with _ | i
  ·simp at h1 h2; subst h1 h2; exact .atom rfl
  ·simp at h1)
 rw [hb] at hb2; injection hb2 with hb2; subst hb2
 have ho : o < C.size := by simp at hfit; omega
 have : w' = w.setCell ⟨b.1, o, none⟩ (.int kk x) := by
  rw [hw]
  exact ZdJ hB ho
 rw [← this]
 exact ⟨hstep, hn⟩
theorem ZfW (F : Fit P ext) {f n : Nat} (hx : ext f = some (.mark n)) {ι : Ren} {w : World} {s s' : St} {args args' : Array Value} {v : Value} (ha : VRs ι args args') (he : Emb P ι s.h.get w) (h : Zc6 n args s = some (v, s')) :
  Res P ((callFunc f args').run P w) s ι w v s' := by
 obtain ⟨fn, hf, hb, hn, hk⟩ := F.mark f n hx
 have hname := F.go f fn hf
 unfold Zc6 at h
 split at h
 ·rename_i hargs
  injection h with h; injection h with h1 h2; subst h1 h2
  have hA : args' = #[] := by
   have := ha.1
   rw [← Array.length_toList, hargs] at this
   exact Array.eq_empty_of_size_eq_zero this.symm
  rcases hk with ⟨_, m, hk⟩ | ⟨h, _⟩
  ·exact Res.same he (v' := .tuple #[]) (by rw [hA]; exact run_call_mark0 hf hname hb hn m hk w) (VR.of_free rfl)
  ·omega
 ·rename_i k o hargs
  injection h with h; injection h with h1 h2; subst h1 h2
  have hsz : args'.size = 1 := by rw [← ha.1, ← Array.length_toList, hargs]; rfl
  have h0 : args[0]? = some (.pointer (some ⟨k, o, none⟩)) := by
   have : args.toList[0]? = some (.pointer (some ⟨k, o, none⟩)) := by rw [hargs]; rfl
   simpa using this
  have hv := ha.2 0 _ args'[0] h0 (Array.getElem?_eq_getElem (by omega))
  obtain ⟨b, hb2, hp⟩ := hv.ptr_inv
  have hA : args' = #[.pointer (some ⟨b.1, o, none⟩)] := by
   apply Array.ext (by simpa using hsz)
   intro i h3 h4
   have : i = 0 := by omega
   subst this
   simpa using hp
  rcases hk with ⟨h, _⟩ | ⟨_, m, hk⟩
  ·omega
  ·exact Res.same he (v' := .tuple #[]) (by rw [hA]; exact run_call_marked hf hname hb hn m hk _ w) (VR.of_free rfl)
 ·cases h
theorem ZcK (F : Fit P ext) {f e : Nat} {kk : IntKind} (hx : ext f = some (.at kk e)) {ι : Ren} {w : World} {s s' : St} {args args' : Array Value} {v : Value} (ha : VRs ι args args') (he : Emb P ι s.h.get w) (ho : ∀ p ∈ s'.ob, p.1 = p.2) (h : ZG kk e args s = some (v, s')) :
  Res P ((callFunc f args').run P w) s ι w v s' := by
 obtain ⟨fn, hf, hb, hn, hk⟩ := F.ext f kk e hx
 have hname := F.go f fn hf
 clear hx
 have get : ∀ {i : Nat} {x : Value}, args.toList[i]? = some x → ∃ y, args'[i]? = some y ∧ VR ι x y := fun {i x} hi => by
  have hi' : args[i]? = some x := by simpa using hi
  have hlt : i < args'.size := by rw [← ha.1]; exact (Array.getElem?_eq_some_iff.1 hi').1
  exact ⟨args'[i], Array.getElem?_eq_getElem hlt, ha.2 i x _ hi' (Array.getElem?_eq_getElem hlt)⟩
 have arr : ∀ {l : List Value}, args'.size = l.length → (∀ (i : Nat) (y : Value), l[i]? = some y → args'[i]? = some y) → args' = l.toArray := fun {l} h1 h2 => by
  apply Array.ext (by simpa using h1)
  intro i h3 h4
  have := h2 i l[i] (List.getElem?_eq_getElem (by simpa using h4))
  rw [Array.getElem?_eq_getElem h3] at this
  simpa using Option.some.inj this
 unfold ZG at h
 split at h
 ·rename_i k o r hargs
  split at h
  ·rename_i ck vv hrow
   split at h
   ·rename_i hck
    subst hck
    obtain ⟨b, C, t, hbk, hB, hc, hz⟩ := Zhl he hrow
    obtain ⟨y0, hy0, hv0⟩ := get (i := 0) (by rw [hargs]; rfl)
    obtain ⟨b', hb', rfl⟩ := hv0.ptr_inv
    rw [hbk] at hb'; injection hb' with hb'; subst hb'
    have hsz : args'.size = r.length + 1 := by rw [← ha.1, ← Array.length_toList, hargs]; rfl
    split at h
    ·injection h with h; injection h with h1 h2; subst h1 h2
     have hA : args' = #[.pointer (some ⟨b.1, o, none⟩)] := arr (l := [_]) (by simpa using hsz) fun i y hi => by
      rcases i with _ | i
      ·simp at hi; subst hi; exact hy0
      ·simp at hi
     rcases hk with ⟨_, hk⟩ | ⟨h, _⟩ | ⟨h, _⟩ | ⟨h, _⟩ <;> try omega
     exact Res.same he (v' := .int ck vv) (by rw [hA]; exact run_call_load hf hname hb hn _ hk hc) (.atom rfl)
    ·rename_i xk x
     split at h
     ·rename_i hxk
      subst hxk
      split at h
      ·rename_i s1 hw
       injection h with h; injection h with h1 h2; subst h1 h2
       obtain ⟨y1, hy1, hv1⟩ := get (i := 1) (by rw [hargs]; rfl)
       have := hv1.int_inv
       subst this
       have hA : args' = #[.pointer (some ⟨b.1, o, none⟩), .int _ x] := arr (l := [_, _]) (by simpa using hsz) fun i y hi => by
        rcases i with _ | _ | i
        ·simp at hi; subst hi; exact hy0
        ·simp at hi; subst hi; exact hy1
        ·simp at hi
       rcases hk with ⟨h, _⟩ | ⟨_, hk⟩ | ⟨h, _⟩ | ⟨h, _⟩ <;> try omega
       obtain ⟨q1, q2⟩ := ZcJ he hw hbk
       exact ⟨_, _, ι, .tuple #[], by rw [hA]; exact run_call_store hf hname hb hn hk hc hz, .inl rfl, q1, q2 ▸ Dom.refl, VR.of_free rfl⟩
      ·cases h
     ·cases h
    ·rename_i xk d
     split at h
     ·rename_i hxk
      subst hxk
      split at h
      ·rename_i s1 hw
       injection h with h; injection h with h1 h2; subst h1 h2
       obtain ⟨y1, hy1, hv1⟩ := get (i := 1) (by rw [hargs]; rfl)
       have := hv1.int_inv
       subst this
       have hA : args' = #[.pointer (some ⟨b.1, o, none⟩), .int _ d] := arr (l := [_, _]) (by simpa using hsz) fun i y hi => by
        rcases i with _ | _ | i
        ·simp at hi; subst hi; exact hy0
        ·simp at hi; subst hi; exact hy1
        ·simp at hi
       rcases hk with ⟨h, _⟩ | ⟨h, _⟩ | ⟨_, hk⟩ | ⟨h, _⟩ <;> try omega
       obtain ⟨q1, q2⟩ := ZcJ he hw hbk
       exact ⟨_, _, ι, .int _ _, by rw [hA]; exact run_call_add hf hname hb hn _ hk hc hz (by simp [Op.intArith]), .inl rfl, q1, q2 ▸ Dom.refl, .atom rfl⟩
      ·cases h
     ·cases h
    ·rename_i xk x yk y
     split at h
     ·rename_i hxy
      obtain ⟨hxk, hyk⟩ := hxy
      subst hxk
      subst hyk
      obtain ⟨y1, hy1, hv1⟩ := get (i := 1) (by rw [hargs]; rfl)
      have := hv1.int_inv
      subst this
      obtain ⟨y2, hy2, hv2⟩ := get (i := 2) (by rw [hargs]; rfl)
      have := hv2.int_inv
      subst this
      have hA : args' = #[.pointer (some ⟨b.1, o, none⟩), .int _ x, .int _ y] := arr (l := [_, _, _]) (by simpa using hsz) fun i z hi => by
       rcases i with _ | _ | _ | i
       ·simp at hi; subst hi; exact hy0
       ·simp at hi; subst hi; exact hy1
       ·simp at hi; subst hi; exact hy2
       ·simp at hi
      rcases hk with ⟨h, _⟩ | ⟨h, _⟩ | ⟨h, _⟩ | ⟨_, hk⟩ <;> try omega
      split at h
      ·rename_i s1 hs
       split at h
       ·rename_i s2 hw
        injection h with h; injection h with h1 h2; subst h1 h2
        obtain ⟨e1, e2, e3⟩ := ZcA hs (Zm (Zo hw).ob ho)
        have hvx : vv = x := by simpa using e1.symm
        subst hvx
        obtain ⟨q1, q2⟩ := ZcJ (e2 ▸ he) hw hbk
        exact ⟨_, _, ι, .bool true, by rw [hA]; exact run_call_cas_hit hf hname hb hn _ hk hc hz, .inl rfl, e2 ▸ q1, (q2.trans e3) ▸ Dom.refl, .atom rfl⟩
       ·cases h
      ·rename_i s1 hs
       injection h with h; injection h with h1 h2; subst h1 h2
       obtain ⟨e1, e2, e3⟩ := ZcA hs ho
       have hvx : vv ≠ x := by simpa using e1.symm
       exact Res.heap (s := s1) (Res.same (e2 ▸ he) (v' := .bool false) (by rw [hA]; exact run_call_cas_miss hf hname hb hn _ hk hc hz hvx) (.atom rfl)) e2.symm e3.symm
     ·cases h
    ·cases h
   ·cases h
  ·cases h
 ·cases h
theorem ZfX {kk : IntKind} {e : Nat} {args : Array Value} {z : Int} {c' : List Value} {s s' : St} {v : Value} (hob : ∀ p ∈ s'.ob, p.1 = p.2) (h : ZaT kk e args z c' s = some (v, s')) (hw : s.orc.w = s.orc.w) :
  ∃ s0 s1, ZG kk e args s0 = some (v, s1) ∧ s0.h = s.h ∧ s0.n = s.n ∧ s'.h = s1.h ∧ s'.n = s1.n ∧ ∀ p ∈ s1.ob, p.1 = p.2 := by
 unfold ZaT at h
 split at h
 ·rename_i k o r hargs
  split at h
  ·rename_i c t hk
   split at h
   ·injection h with h
    injection h with h1 h2
    subst h1 h2
    have q := Zk.1 (hob (_, true) List.mem_cons_self)
    refine ⟨s, s, ?_, rfl, rfl, rfl, rfl, fun p hp => hob p (List.mem_cons_of_mem _ hp)⟩
    unfold ZG
    rw [hargs]
    simp only [ZJ, hk, q, if_true]
   ·rename_i xk x
    split at h
    ·rename_i hxk
     subst hxk
     injection h with h
     injection h with h1 h2
     subst h1 h2
     obtain ⟨q, q1, q2⟩ := Zk.1 (hob (_, true) List.mem_cons_self)
     refine ⟨s, s.putK k c' t, ?_, rfl, rfl, rfl, rfl, fun p hp => hob p (List.mem_cons_of_mem _ hp)⟩
     unfold ZG
     rw [hargs]
     simp only [ZJ, hk, q, if_true, Zx, List.length_cons, List.length_nil, Nat.zero_add, Nat.ble_eq_true_of_le q1, Ze, ZI, Bool.and_self, cond_true, q2]
    ·cases h
   ·rename_i xk d
    split at h
    ·rename_i hxk
     subst hxk
     injection h with h
     injection h with h1 h2
     subst h1 h2
     obtain ⟨q, q1, q2⟩ := Zk.1 (hob (_, true) List.mem_cons_self)
     refine ⟨s, s.putK k c' t, ?_, rfl, rfl, rfl, rfl, fun p hp => hob p (List.mem_cons_of_mem _ hp)⟩
     unfold ZG
     rw [hargs]
     simp only [ZJ, hk, q, if_true, Zx, List.length_cons, List.length_nil, Nat.zero_add, Nat.ble_eq_true_of_le q1, Ze, ZI, Bool.and_self, cond_true, q2]
    ·cases h
   ·rename_i xk x yk y
    split at h
    ·rename_i hxy
     obtain ⟨hxk, hyk⟩ := hxy
     subst hxk
     subst hyk
     generalize hs0 : s.told (dP (Z1 1 (c.drop o) = some [.int _ z])) = s0 at h
     have e0 : s0.h = s.h := by rw [← hs0]; rfl
     have en : s0.n = s.n := by rw [← hs0]; rfl
     have em : (dP (Z1 1 (c.drop o) = some [.int yk z]), true) ∈ s0.ob := by rw [← hs0]; exact List.mem_cons_self
     split at h
     ·rename_i s1 hs
      injection h with h
      injection h with h1 h2
      subst h1 h2
      have ho1 : ∀ p ∈ s1.ob, p.1 = p.2 := fun p hp => hob p (List.mem_cons_of_mem _ hp)
      obtain ⟨q1, q2⟩ := Zk.1 (hob (_, true) List.mem_cons_self)
      obtain ⟨e1, e2, e3⟩ := ZcA hs ho1
      have q := Zk.1 (ho1 (_, true) ((Zbc hs).ob.subset em))
      refine ⟨s0, s1.putK k c' t, ?_, e0, en, rfl, rfl, ho1⟩
      unfold ZG
      rw [hargs]
      have hk1 : s1.h.get k = some (.cells c t) := by rw [e2, e0]; exact hk
      simp only [ZJ, e0, hk, q, and_self, if_true, hs, Zx, hk1, List.length_cons, List.length_nil, Nat.zero_add, Nat.ble_eq_true_of_le q1, Ze, ZI, Bool.and_self, cond_true, q2]
     ·rename_i s1 hs
      injection h with h
      injection h with h1 h2
      subst h1 h2
      have q := Zk.1 (hob (_, true) ((Zbc hs).ob.subset em))
      refine ⟨s0, s1, ?_, e0, en, rfl, rfl, hob⟩
      unfold ZG
      rw [hargs]
      simp only [ZJ, e0, hk, q, and_self, if_true, hs]
    ·cases h
   ·cases h
  ·cases h
 ·cases h
end
end Ev
end Go.Proofs.YtldlnclkdgfahaaGreat
/- A region that draws its order: what is elsewhere stays, and which operations may change places. -/
namespace Go.Proofs.YtldlnclkdgfahaaGreat
open Go.RowKit
namespace Ev
section
variable {P : Program} {ext : FuncId → Option Ext}

/-! ### What an operation turns -/
noncomputable def Dk (r : Rec) (k : Nat) : Bool := (r.w && Zcn k r.t) || (Nat.ble r.n0 k && Nat.blt k r.n1)
noncomputable def Kof (e : Ent) : AH := if e.r.small then (ZbF e.s.h (e.r.t ++ e.r.q)).get else e.s.h.get
noncomputable def ZeK (e : Ent) : AH := fun k => if Dk e.r k then e.s'.h.get k else Kof e k
theorem ZaN {k : Nat} : ∀ {l : List Nat}, Zcn k l = true ↔ k ∈ l
 | [] => by simp [Zcn]
 | x :: l => by
  simp only [Zcn, Bool.or_eq_true, List.mem_cons, ZaN (l := l)]
  constructor
  ·rintro (h | h)
   ·exact .inl (Nat.eq_of_beq_eq_true h)
   ·exact .inr h
  ·rintro (h | h)
   ·exact .inl (ZbC h)
   ·exact .inr h
theorem ZdK {α : Type} {p : α → Bool} : ∀ {l : List α}, (∀ x ∈ l, p x = true) → Ze p l = true
 | [], _ => rfl
 | x :: l, h => by simp [Ze, h x (by simp), ZdK (l := l) fun y hy => h y (by simp [hy])]
theorem ZS {a b : List Nat} (h : ZaY a b = true) {k : Nat} (ha : k ∈ a) (hb : k ∈ b) : False := by
 have := Zj h k ha
 rw [ZaN.2 hb] at this
 cases this
theorem Zaw {n0 n1 : Nat} {l : List Nat} (h : Zc9 n0 n1 l = true) {k : Nat} (hk : k ∈ l) (h1 : n0 ≤ k) (h2 : k < n1) : False := by
 have := Zj h k hk
 rw [Nat.ble_eq_true_of_le h1, show Nat.blt k n1 = true from Nat.ble_eq_true_of_le h2] at this
 cases this
theorem Zax {r : Rec} {k : Nat} : Dk r k = true ↔ (r.w = true ∧ k ∈ r.t) ∨ (r.n0 ≤ k ∧ k < r.n1) := by
 unfold Dk
 simp only [Bool.or_eq_true, Bool.and_eq_true, ZaN]
 constructor
 ·rintro (h | ⟨h1, h2⟩)
  ·exact .inl h
  ·exact .inr ⟨Nat.le_of_ble_eq_true h1, Nat.le_of_ble_eq_true h2⟩
 ·rintro (h | ⟨h1, h2⟩)
  ·exact .inl h
  ·exact .inr ⟨Nat.ble_eq_true_of_le h1, Nat.ble_eq_true_of_le h2⟩
structure Zd5 (r : Rec) : Prop where
 lt : ∀ k ∈ r.t, k < r.n0
 ltq : ∀ k ∈ r.q, k < r.n0
 le : r.n0 ≤ r.n1
 big : r.small = false → r.w = true
noncomputable def ZeL (a b : Rec) : Prop := (a.small = true → ∀ k ∈ a.t ++ a.q, Dk b k = false) ∧ (a.small = false → ∀ k, k < a.n0 → Dk b k = false)
theorem Zfu {a b : Rec} (h : Zdv a b = true) (ha : Zd5 a) (hb : Zd5 b) (hab : a.n1 ≤ b.n0) : ZeL a b ∧ ZeL b a ∧ ∀ k, Dk a k = true → Dk b k = true → False := by
 have la := ha.le
 have lb := hb.le
 unfold Zdv at h
 have nd : ∀ {r : Rec} {k : Nat}, ¬ ((r.w = true ∧ k ∈ r.t) ∨ (r.n0 ≤ k ∧ k < r.n1)) → Dk r k = false := fun {r k} hn => by
  cases hd : Dk r k
  ·rfl
  ·exact absurd (Zax.1 hd) hn
 split at h
 ·rename_i h1 h2
  simp only [Bool.and_eq_true, Bool.or_eq_true] at h
  obtain ⟨⟨hw, hn⟩, ⟨hq1, hq2⟩, hnq⟩ := h
  have conf : ∀ k, k ∈ a.t → k ∈ b.t → a.w = true ∨ b.w = true → False := fun k k1 k2 k3 => by
   rcases hw with hw | hw
   ·rcases k3 with k3 | k3 <;> rw [k3] at hw <;> simp at hw
   ·exact ZS hw k1 k2
  refine ⟨⟨fun _ k hk => nd ?_, fun e => absurd (h1.symm.trans e) (by decide)⟩, ⟨fun _ k hk => nd ?_, fun e => absurd (h2.symm.trans e) (by decide)⟩, fun k k1 k2 => ?_⟩
  ·rcases List.mem_append.1 hk with hk | hk
   ·rintro (⟨q1, q2⟩ | ⟨q1, q2⟩)
    ·exact conf k hk q2 (.inr q1)
    ·have := ha.lt k hk; omega
   ·rintro (⟨q1, q2⟩ | ⟨q1, q2⟩)
    ·rcases hq1 with h | h
     ·rw [q1] at h; simp at h
     ·exact ZS h hk q2
    ·have := ha.ltq k hk; omega
  ·rcases List.mem_append.1 hk with hk | hk
   ·rintro (⟨q1, q2⟩ | ⟨q1, q2⟩)
    ·exact conf k q2 hk (.inl q1)
    ·exact Zaw hn hk q1 q2
   ·rintro (⟨q1, q2⟩ | ⟨q1, q2⟩)
    ·rcases hq2 with h | h
     ·rw [q1] at h; simp at h
     ·exact ZS h q2 hk
    ·exact Zaw hnq hk q1 q2
  ·rcases Zax.1 k1 with ⟨q1, q2⟩ | ⟨q1, q2⟩ <;> rcases Zax.1 k2 with ⟨r1, r2⟩ | ⟨r1, r2⟩
   ·exact conf k q2 r2 (.inl q1)
   ·have := ha.lt k q2; omega
   ·exact Zaw hn r2 q1 q2
   ·omega
 ·rename_i h1 h2
  simp only [Bool.and_eq_true, Bool.not_eq_true'] at h
  obtain ⟨⟨⟨hw, hn⟩, hap⟩, haq⟩ := h
  have hn' : a.n0 = a.n1 := Nat.eq_of_beq_eq_true hn
  have na : ∀ k, Dk a k = false := fun k => nd (by
   rintro (⟨q1, q2⟩ | ⟨q1, q2⟩)
   ·rw [hw] at q1; cases q1
   ·omega)
  refine ⟨⟨fun _ k hk => nd ?_, fun e => absurd (h1.symm.trans e) (by decide)⟩, ⟨fun e => absurd (h2.symm.trans e) (by decide), fun _ k _ => na k⟩, fun k k1 _ => by rw [na k] at k1; cases k1⟩
  rcases List.mem_append.1 hk with hk | hk
  ·rintro (⟨q1, q2⟩ | ⟨q1, q2⟩)
   ·exact ZS hap hk q2
   ·have := ha.lt k hk; omega
  ·rintro (⟨q1, q2⟩ | ⟨q1, q2⟩)
   ·exact ZS haq hk q2
   ·have := ha.ltq k hk; omega
 ·rename_i h1 h2
  simp only [Bool.and_eq_true, Bool.not_eq_true'] at h
  obtain ⟨⟨⟨hw, hap⟩, hn⟩, haq, hnq⟩ := h
  refine ⟨⟨fun e => absurd (h1.symm.trans e) (by decide), fun _ k hk => nd ?_⟩, ⟨fun _ k hk => nd ?_, fun e => absurd (h2.symm.trans e) (by decide)⟩, fun k k1 k2 => ?_⟩
  ·rintro (⟨q1, q2⟩ | ⟨q1, q2⟩)
   ·rw [hw] at q1; cases q1
   ·omega
  ·rcases List.mem_append.1 hk with hk | hk
   ·rintro (⟨q1, q2⟩ | ⟨q1, q2⟩)
    ·exact ZS hap q2 hk
    ·exact Zaw hn hk q1 q2
   ·rintro (⟨q1, q2⟩ | ⟨q1, q2⟩)
    ·exact ZS haq q2 hk
    ·exact Zaw hnq hk q1 q2
  ·rcases Zax.1 k2 with ⟨r1, r2⟩ | ⟨r1, r2⟩
   ·rw [hw] at r1; cases r1
   ·rcases Zax.1 k1 with ⟨q1, q2⟩ | ⟨q1, q2⟩
    ·have := ha.lt k q2; omega
    ·omega
 ·cases h
end
end Ev
end Go.Proofs.YtldlnclkdgfahaaGreat
/- A region that draws its order: what the run in the text's order tells. -/
namespace Go.Proofs.YtldlnclkdgfahaaGreat
open Go.RowKit
namespace Ev
section
variable {P : Program} {ext : FuncId → Option Ext}

structure EntOk (P : Program) (ext : FuncId → Option Ext) (nt fu : Nat) (ops : Array Oper) (before : List Ent) (T T' : Tr Value) (s s' : St) (e : Ent) : Prop where
 eT : e.T = T
 eT' : T' = ZQ T e.o.dst e.v
 es' : s' = e.s'
 dst : Za1 nt e.o.dst = true
 good : Ze Zau e.o.op.operands.toList = true
 edges : Zce before.length e.o.after.toList = true
 em : e.m = Z6 before e.o.after.toList
 pairs : Zbs ops e.o e.r e.m 0 before = true
 run : ∃ b, Zac ops T e.o s = some (b, e.s) ∧ (b = true → ∃ fu', fu' < fu ∧ Zbk P ext fu' (opnd (ZcW T (ZaD e.o.op.operands.toList))) e.o e.s = some (e.v, e.s', e.r)) ∧ (b = false → e.v = undef ∧ e.s' = e.s ∧ e.r = ZbA e.s)
theorem EntOk.fuel {nt fu fu1 : Nat} {ops : Array Oper} {before : List Ent} {T T' : Tr Value} {s s' : St} {e : Ent} (h : EntOk P ext nt fu ops before T T' s s' e) (hf : fu ≤ fu1) : EntOk P ext nt fu1 ops before T T' s s' e :=
 ⟨h.eT, h.eT', h.es', h.dst, h.good, h.edges, h.em, h.pairs, by
  obtain ⟨b, h1, h2, h3⟩ := h.run
  exact ⟨b, h1, fun hb => (by obtain ⟨fu', h4, h5⟩ := h2 hb; exact ⟨fu', Nat.lt_of_lt_of_le h4 hf, h5⟩), h3⟩⟩
theorem Zd6 (nt : Nat) (ops : Array Oper) : ∀ (fu : Nat) (l : List Oper) (done : List Ent) (T : Tr Value) (s : St) (es : List Ent) (T' : Tr Value) (s' : St), ZK P ext nt fu ops done l T s = some (es, T', s') →
  ∃ (es2 : List Ent) (σ : Nat → St) (τ : Nat → Tr Value), es = done ++ es2 ∧ es2.map (·.o) = l ∧ σ 0 = s ∧ τ 0 = T ∧ σ l.length = s' ∧ τ l.length = T' ∧
   ∀ (i : Nat) (e : Ent), es2[i]? = some e → EntOk P ext nt fu ops (done ++ es2.take i) (τ i) (τ (i + 1)) (σ i) (σ (i + 1)) e
 | 0, _, _, _, _, _, _, _, h => by simp [ZK, St.keep_eq] at h
 | fu + 1, [], done, T, s, es, T', s', h => by
  simp only [ZK, St.keep_eq] at h
  injection h with h
  simp only [Prod.mk.injEq] at h
  obtain ⟨rfl, rfl, rfl⟩ := h
  exact ⟨[], fun _ => s, fun _ => T, by simp, rfl, rfl, rfl, rfl, rfl, fun i e hi => by simp at hi⟩
 | fu + 1, o :: l, done, T, s, es, T', s', h => by
  simp only [ZK, St.keep_eq] at h
  obtain ⟨hg, h⟩ := Zb h
  simp only [Bool.and_eq_true] at hg
  have go : ∀ (e1 : Ent), EntOk P ext nt (fu + 1) ops done T (ZQ T e1.o.dst e1.v) s e1.s' e1 → e1.o = o → ZK P ext nt fu ops (done ++ [e1]) l (ZQ T e1.o.dst e1.v) e1.s' = some (es, T', s') →
    ∃ (es2 : List Ent) (σ : Nat → St) (τ : Nat → Tr Value), es = done ++ es2 ∧ es2.map (·.o) = o :: l ∧ σ 0 = s ∧ τ 0 = T ∧ σ (o :: l).length = s' ∧ τ (o :: l).length = T' ∧
     ∀ (i : Nat) (e : Ent), es2[i]? = some e → EntOk P ext nt (fu + 1) ops (done ++ es2.take i) (τ i) (τ (i + 1)) (σ i) (σ (i + 1)) e := fun e1 hok ho hrec => by
   obtain ⟨es2, σ, τ, h1, h2, h3, h4, h5, h6, h7⟩ := Zd6 nt ops fu l _ _ _ es T' s' hrec
   refine ⟨e1 :: es2, fun i => match i with | 0 => s | i + 1 => σ i, fun i => match i with | 0 => T | i + 1 => τ i, by rw [h1]; simp, by simp [h2, ho], rfl, rfl, by simpa using h5, by simpa using h6, fun i e hi => ?_⟩
   cases i with
   | zero =>
    simp at hi
    subst hi
    simp only [List.take_zero, List.append_nil, h3, h4]
    exact hok
   | succ i =>
    have := (h7 i e (by simpa using hi)).fuel (Nat.le_succ fu)
    simpa using this
  split at h
  ·rename_i s1 hw
   split at h
   ·rename_i v s2 r hv
    obtain ⟨hp, h⟩ := Zb h
    exact go ⟨o, Z6 done o.after.toList, r, T, s1, v, s2⟩ ⟨rfl, rfl, rfl, hg.1.1, hg.1.2, hg.2, rfl, hp, true, hw, fun _ => ⟨fu, Nat.lt_succ_self _, hv⟩, (fun e => by cases e)⟩ rfl h
   ·cases h
  ·rename_i s1 hw
   obtain ⟨hp, h⟩ := Zb h
   exact go ⟨o, Z6 done o.after.toList, ZbA s1, T, s1, undef, s1⟩ ⟨rfl, rfl, rfl, hg.1.1, hg.1.2, hg.2, rfl, hp, false, hw, (fun e => by cases e), fun _ => ⟨rfl, rfl, rfl⟩⟩ rfl h
  ·cases h

/-! ### Which operations stand ahead -/
theorem ZcL {i : Nat} : ∀ {l : List Edge}, Zce i l = true → ∀ e ∈ l, Region.binds .any e = true → e.on < i
 | [], _, e, he => by cases he
 | d :: l, h, e, he => by
  simp only [Zce, Bool.and_eq_true, Bool.or_eq_true, Bool.not_eq_true'] at h
  rcases List.mem_cons.1 he with rfl | he
  ·intro hb
   rcases h.1 with h1 | h1
   ·rw [hb] at h1; cases h1
   ·exact Nat.le_of_ble_eq_true h1
  ·exact ZcL h.2 e he
theorem ZbQ {before : List Ent} {j : Nat} : ∀ {l : List Edge}, (Z6 before l).testBit j = true → ∃ e ∈ l, Region.binds .any e = true ∧ (e.on = j ∨ ∃ d, before[e.on]? = some d ∧ d.m.testBit j = true)
 | [], h => by simp [Z6] at h
 | d :: l, h => by
  simp only [Z6] at h
  cases hb : Region.binds .any d with
  | false =>
   rw [hb] at h
   obtain ⟨e, h1, h2⟩ := ZbQ (l := l) (by simpa using h)
   exact ⟨e, List.mem_cons_of_mem _ h1, h2⟩
  | true =>
   rw [hb] at h
   simp only [cond_true, Nat.testBit_or, Bool.or_eq_true] at h
   rcases h with (h | h) | h
   ·rw [Nat.testBit_two_pow] at h
    exact ⟨d, by simp, hb, .inl (by simpa using h)⟩
   ·refine ⟨d, by simp, hb, .inr ?_⟩
    split at h
    ·exact ⟨_, by assumption, h⟩
    ·simp at h
   ·obtain ⟨e, h1, h2⟩ := ZbQ (l := l) h
    exact ⟨e, List.mem_cons_of_mem _ h1, h2⟩
theorem ZcM {ops : Array Oper} {o : Oper} {r : Rec} {m : Nat} : ∀ {l : List Ent} {j : Nat}, Zbs ops o r m j l = true → ∀ (i : Nat) (d : Ent), l[i]? = some d → m.testBit (j + i) = true ∨ (Oper.apart ops d.o o = true ∧ Zdv d.r r = true)
 | [], j, _, i, d, hd => by simp at hd
 | x :: l, j, h, i, d, hd => by
  simp only [Zbs, Bool.and_eq_true, Bool.or_eq_true] at h
  cases i with
  | zero =>
   simp at hd
   subst hd
   rcases h.1 with h1 | h1
   ·exact .inl (by simpa using h1)
   ·exact .inr h1
  | succ i =>
   have := ZcM h.2 i d (by simpa using hd)
   rwa [show j + 1 + i = j + (i + 1) by omega] at this
def ZdL (es : List Ent) (L : Nat → Bool) : Prop := ∀ (i : Nat) (e : Ent), es[i]? = some e → L i = true → ∀ d ∈ e.o.after.toList, Region.binds .any d = true → L d.on = true
theorem Zdg {es : List Ent} {L : Nat → Bool} (hc : ZdL es L) (hm : ∀ (i : Nat) (e : Ent), es[i]? = some e → e.m = Z6 (es.take i) e.o.after.toList) {j : Nat} :
  ∀ (i : Nat) (e : Ent), es[i]? = some e → (∀ d ∈ e.o.after.toList, Region.binds .any d = true → L d.on = true) → e.m.testBit j = true → L j = true := by
 intro i
 induction i using Nat.strongRecOn with
 | _ i ih =>
  intro e he hr hb
  rw [hm i e he] at hb
  obtain ⟨d, hd, hbd, h1 | ⟨x, hx, hxb⟩⟩ := ZbQ hb
  ·rw [← h1]; exact hr d hd hbd
  ·have hlt : d.on < i := by
    have := (List.getElem?_eq_some_iff.1 hx).1
    rw [List.length_take] at this
    omega
   rw [List.getElem?_take_of_lt hlt] at hx
   exact ih d.on hlt x hx (hc d.on x hx (hr d hd hbd)) hxb
end
end Ev
end Go.Proofs.YtldlnclkdgfahaaGreat
/- A region that draws its order: in whatever order its edges allow. -/
namespace Go.Proofs.YtldlnclkdgfahaaGreat
open Go.RowKit
namespace Ev
section
variable {β : Type}
noncomputable def ovf (L D : Nat → Bool) (V : Nat → β) (x0 : β) : Nat → β
  | 0 => x0
  | p + 1 => if L p && D p then V p else ovf L D V x0 p
noncomputable def Z7 (L : Nat → Bool) (i : Nat) : Nat → Bool := fun j => if j = i then true else L j
theorem ZbK {L D : Nat → Bool} {V S : Nat → β} (i n : Nat) (hi : i ≤ n) (hS : ∀ p, p < n → S (p + 1) = if D p then V p else S p) (h1 : ∀ p, p < i → L p = false → D p = false) (h2 : ∀ p, i ≤ p → p < n → L p = true → D p = false) :
    ovf L D V (S 0) n = S i := by
  have A : ∀ p, p ≤ i → ovf L D V (S 0) p = S p := by
    intro p
    induction p with
    | zero => intro _; rfl
    | succ p ih =>
      intro hp
      rw [ovf, ih (by omega), hS p (by omega)]
      cases hL : L p with
      | true => simp
      | false => rw [h1 p (by omega) hL]; simp
  have B : ∀ p, i ≤ p → p ≤ n → ovf L D V (S 0) p = S i := by
    intro p
    induction p with
    | zero => intro h _; obtain rfl : i = 0 := by omega
              rfl
    | succ p ih =>
      intro h hp
      by_cases he : i = p + 1
      · rw [he]; exact A (p + 1) (by omega)
      · rw [ovf, ih (by omega) (by omega)]
        cases hL : L p with
        | true => rw [h2 p (by omega) (by omega) hL]; simp
        | false => simp
  exact B n hi (Nat.le_refl _)
theorem Zf4 {L D : Nat → Bool} {V : Nat → β} {x0 : β} (i n : Nat) (hi : i < n) (hL : L i = false) (h : ∀ p, i < p → p < n → L p = true → D p = true → D i = false) :
    ovf (Z7 L i) D V x0 n = if D i then V i else ovf L D V x0 n := by
  have A : ∀ p, p ≤ i → ovf (Z7 L i) D V x0 p = ovf L D V x0 p := by
    intro p
    induction p with
    | zero => intro _; rfl
    | succ p ih =>
      intro hp
      rw [ovf, ovf, ih (by omega)]
      have : Z7 L i p = L p := by unfold Z7; rw [if_neg (by omega)]
      rw [this]
  have B : ∀ p, i < p → p ≤ n → ovf (Z7 L i) D V x0 p = if D i then V i else ovf L D V x0 p := by
    intro p
    induction p with
    | zero => intro h _; omega
    | succ p ih =>
      intro hp hn
      by_cases he : p = i
      · subst he
        rw [ovf, ovf, A p (Nat.le_refl _), hL]
        have : Z7 L p p = true := by simp [Z7]
        rw [this]
        simp
      · rw [ovf, ovf, ih (by omega) (by omega)]
        have : Z7 L i p = L p := by unfold Z7; rw [if_neg he]
        rw [this]
        cases hLp : L p with
        | false => simp
        | true =>
          cases hD : D p with
          | false => simp
          | true => rw [h p (by omega) (by omega) hLp hD]; simp
  exact B n hi (Nat.le_refl _)
end
section
variable {P : Program} {ext : FuncId → Option Ext}

noncomputable def ZbR (es : List Ent) (k p : Nat) : Bool := match es[p]? with | some e => Dk e.r k | none => false
noncomputable def ZeM (es : List Ent) (k p : Nat) : Option AObj := match es[p]? with | some e => e.s'.h.get k | none => none
noncomputable def HL (es : List Ent) (L : Nat → Bool) (s : St) : AH := fun k => ovf L (ZbR es k) (ZeM es k) (s.h.get k) es.length
noncomputable def ZcN (es : List Ent) (t p : Nat) : Bool := match es[p]? with | some e => e.o.dst == some t | none => false
noncomputable def ZeN (es : List Ent) (p : Nat) : Option Value := match es[p]? with | some e => some e.v | none => none
noncomputable def TL (es : List Ent) (L : Nat → Bool) (T : Tr Value) : Nat → Option Value := fun t => ovf L (ZcN es t) (ZeN es) (T.get t) es.length
structure Ctx (P : Program) (ext : FuncId → Option Ext) (nt fu : Nat) (ops : Array Oper) (es : List Ent) (σ : Nat → St) (τ : Nat → Tr Value) : Prop where
  len : es.length = ops.size
  op : ∀ (i : Nat) (e : Ent), es[i]? = some e → ops[i]? = some e.o
  ok : ∀ (i : Nat) (e : Ent), es[i]? = some e → EntOk P ext nt fu ops (es.take i) (τ i) (τ (i + 1)) (σ i) (σ (i + 1)) e
  rok : ∀ (i : Nat) (e : Ent), es[i]? = some e → Zd5 e.r ∧ e.r.n0 = (σ i).n ∧ e.r.n1 = (σ (i + 1)).n ∧ (∀ k, Dk e.r k = false → (σ (i + 1)).h.get k = (σ i).h.get k) ∧ e.s.h = (σ i).h
  old : ∀ k, ((σ 0).h.get k).isSome → ¬ ((σ 0).n ≤ k ∧ k < (σ es.length).n)
  sem : ∀ (i : Nat) (e : Ent), es[i]? = some e → ∀ (ι : Ren) (w : World) (a : Act) (K : Act → World → Prop) (Q : Exit → Act → World → Prop), (∀ t ∈ e.o.looksAt ops, VR ι (((τ i).get t).getD undef) (a.tmps.getD t undef)) → Emb P ι (Kof e) w → Fresh ι (σ i).n (σ (i + 1)).n →
    (∀ v' w' ι', Step P ι (Kof e) w ι' (ZeK e) w' → Dom ι ι' (σ i).n (σ (i + 1)).n → VR ι' e.v v' → K (a.put e.o.dst v') w') → wpOp P ops Q i K a w
variable {nt fu : Nat} {ops : Array Oper} {es : List Ent} {σ : Nat → St} {τ : Nat → Tr Value}
theorem Ctx.get (C : Ctx P ext nt fu ops es σ τ) {i : Nat} (hi : i < es.length) : ∃ e, es[i]? = some e := ⟨_, List.getElem?_eq_getElem hi⟩
theorem Ctx.mono (C : Ctx P ext nt fu ops es σ τ) : ∀ {i j : Nat}, i ≤ j → j ≤ es.length → (σ i).n ≤ (σ j).n := by
  intro i j
  induction j with
  | zero => intro h _; obtain rfl : i = 0 := by omega
            exact Nat.le_refl _
  | succ j ih =>
    intro h hj
    by_cases he : i = j + 1
    · subst he; exact Nat.le_refl _
    · obtain ⟨e, hee⟩ := C.get (i := j) (by omega)
      obtain ⟨r1, r2, r3, _⟩ := C.rok j e hee
      have := r1.le
      exact Nat.le_trans (ih (by omega) (by omega)) (by omega)
theorem Ctx.chainH (C : Ctx P ext nt fu ops es σ τ) (k p : Nat) (hp : p < es.length) : (σ (p + 1)).h.get k = if ZbR es k p then ZeM es k p else (σ p).h.get k := by
  obtain ⟨e, he⟩ := C.get hp
  obtain ⟨_, _, _, r4, _⟩ := C.rok p e he
  have hs := (C.ok p e he).es'
  unfold ZbR ZeM
  rw [he]
  simp only
  cases hd : Dk e.r k with
  | true => simp [hs]
  | false => simpa using r4 k hd
theorem Ctx.chainT (C : Ctx P ext nt fu ops es σ τ) (t p : Nat) (hp : p < es.length) : (τ (p + 1)).get t = if ZcN es t p then ZeN es p else (τ p).get t := by
  obtain ⟨e, he⟩ := C.get hp
  have hs := (C.ok p e he).eT'
  unfold ZcN ZeN
  rw [he, hs]
  simp only
  cases hd : e.o.dst with
  | none => simp [ZQ]
  | some d =>
    simp only [ZQ, Tr.get_set]
    by_cases ht : t = d
    · subst ht; simp [Zc]
    · rw [Za ht]
      have : ((some d : Option Nat) == some t) = false := by simpa using fun e => ht e.symm
      rw [this]
      simp
theorem Ctx.dk_lt (C : Ctx P ext nt fu ops es σ τ) {p k : Nat} {e : Ent} (he : es[p]? = some e) (hd : Dk e.r k = true) : k < (σ (p + 1)).n := by
  obtain ⟨r1, r2, r3, _⟩ := C.rok p e he
  rcases Zax.1 hd with ⟨_, h⟩ | ⟨_, h⟩
  · have := r1.lt k h; have := r1.le; omega
  · omega
theorem Ctx.pair (C : Ctx P ext nt fu ops es σ τ) {i j : Nat} {d e : Ent} (hij : i < j) (hd : es[i]? = some d) (he : es[j]? = some e) : e.m.testBit i = true ∨ (Oper.apart ops d.o e.o = true ∧ ZeL d.r e.r ∧ ZeL e.r d.r ∧ ∀ k, Dk d.r k = true → Dk e.r k = true → False) := by
  have hj : j < es.length := (List.getElem?_eq_some_iff.1 he).1
  rcases ZcM (C.ok j e he).pairs i d (by rw [List.getElem?_take_of_lt hij]; exact hd) with h | ⟨h1, h2⟩
  · exact .inl (by simpa using h)
  · obtain ⟨r1, r2, r3, _⟩ := C.rok i d hd
    obtain ⟨q1, q2, q3, _⟩ := C.rok j e he
    exact .inr ⟨h1, Zfu h2 r1 q1 (by rw [r3, q2]; exact C.mono (by omega) (by omega))⟩
structure ZcY (es : List Ent) (L : Nat → Bool) (i : Nat) (e : Ent) : Prop where
  at_ : es[i]? = some e
  cl : ZdL es L
  not : L i = false
  deps : ∀ d ∈ e.o.after.toList, Region.binds .any d = true → L d.on = true
theorem Ctx.masks (C : Ctx P ext nt fu ops es σ τ) : ∀ (i : Nat) (e : Ent), es[i]? = some e → e.m = Z6 (es.take i) e.o.after.toList := fun i e he => (C.ok i e he).em
theorem Ctx.loose (C : Ctx P ext nt fu ops es σ τ) {L : Nat → Bool} {i j : Nat} {e d : Ent} (R : ZcY es L i e) (hd : es[j]? = some d) (hne : j < i ∧ L j = false ∨ i < j ∧ L j = true) :
    (∀ t, d.o.dst = some t → t ∉ e.o.looksAt ops) ∧ (∀ t, d.o.dst = some t → e.o.dst ≠ some t) ∧ ZeL e.r d.r ∧ ∀ k, Dk d.r k = true → Dk e.r k = true → False := by
  rcases hne with ⟨h1, h2⟩ | ⟨h1, h2⟩
  · rcases C.pair h1 hd R.at_ with h | ⟨g1, g2, g3, g4⟩
    · have := Zdg R.cl C.masks i e R.at_ R.deps h
      rw [h2] at this; cases this
    · obtain ⟨a1, a2, a3⟩ := Oper.apart_spec g1
      exact ⟨a1, a2, g3, g4⟩
  · rcases C.pair h1 R.at_ hd with h | ⟨g1, g2, g3, g4⟩
    · have := Zdg R.cl C.masks j d hd (R.cl j d hd h2) h
      rw [R.not] at this; cases this
    · obtain ⟨a1, a2, a3⟩ := Oper.apart_spec g1
      exact ⟨a3, fun t ht he => a2 t he ht, g2, fun k k1 k2 => g4 k k2 k1⟩
theorem Ctx.live (C : Ctx P ext nt fu ops es σ τ) : ∀ (i : Nat), i ≤ es.length → ∀ k, ((σ i).h.get k).isSome → ¬ ((σ i).n ≤ k ∧ k < (σ es.length).n) := by
  intro i
  induction i with
  | zero => intro _ k hk; exact C.old k hk
  | succ i ih =>
    intro hi k hk
    obtain ⟨e, he⟩ := C.get (i := i) (by omega)
    rw [C.chainH k i (by omega)] at hk
    have hd : ZbR es k i = Dk e.r k := by unfold ZbR; rw [he]
    rw [hd] at hk
    cases hdk : Dk e.r k with
    | true => have := C.dk_lt he hdk; omega
    | false =>
      rw [hdk] at hk
      have := ih (by omega) k (by simpa using hk)
      have := C.mono (i := i) (j := i + 1) (by omega) hi
      omega
theorem Ctx.agreeH (C : Ctx P ext nt fu ops es σ τ) {L : Nat → Bool} {i : Nat} {e : Ent} (R : ZcY es L i e) (k : Nat) (h1 : e.r.small = true → k ∈ e.r.t ++ e.r.q) (h2 : e.r.small = false → ¬ ((σ i).n ≤ k ∧ k < (σ es.length).n)) : HL es L (σ 0) k = (σ i).h.get k := by
  have hi : i < es.length := (List.getElem?_eq_some_iff.1 R.at_).1
  have key : ∀ p, p < es.length → (p < i ∧ L p = false ∨ i < p ∧ L p = true) → ZbR es k p = false := fun p hp hh => by
    obtain ⟨d, hd⟩ := C.get hp
    obtain ⟨_, _, g3, _⟩ := C.loose R hd hh
    unfold ZbR
    rw [hd]
    simp only
    cases hs : e.r.small with
    | true => exact g3.1 hs k (h1 hs)
    | false =>
      by_cases hk : k < e.r.n0
      · exact g3.2 hs k hk
      · cases hdk : Dk d.r k with
        | false => rfl
        | true =>
          exfalso
          have q := C.dk_lt hd hdk
          have := C.mono (i := p + 1) (j := es.length) (by omega) (Nat.le_refl _)
          have := (C.rok i e R.at_).2.1
          exact h2 hs ⟨by omega, by omega⟩
  exact ZbK (S := fun p => (σ p).h.get k) i es.length (by omega) (fun p hp => C.chainH k p hp) (fun p hp hL => key p (by omega) (.inl ⟨hp, hL⟩)) (fun p hp hn hL => by
    by_cases he : p = i
    · subst he; rw [R.not] at hL; cases hL
    · exact key p hn (.inr ⟨by omega, hL⟩))
theorem Ctx.agreeT (C : Ctx P ext nt fu ops es σ τ) {L : Nat → Bool} {i : Nat} {e : Ent} (R : ZcY es L i e) (t : Nat) (ht : t ∈ e.o.looksAt ops) : TL es L (τ 0) t = (τ i).get t := by
  have hi : i < es.length := (List.getElem?_eq_some_iff.1 R.at_).1
  have key : ∀ p, p < es.length → (p < i ∧ L p = false ∨ i < p ∧ L p = true) → ZcN es t p = false := fun p hp hh => by
    obtain ⟨d, hd⟩ := C.get hp
    obtain ⟨g1, _⟩ := C.loose R hd hh
    unfold ZcN
    rw [hd]
    simp only
    cases hb : d.o.dst == some t with
    | false => rfl
    | true => exact absurd ht (g1 t (by simpa using hb))
  exact ZbK (S := fun p => (τ p).get t) i es.length (by omega) (fun p hp => C.chainT t p hp) (fun p hp hL => key p (by omega) (.inl ⟨hp, hL⟩)) (fun p hp hn hL => by
    by_cases he : p = i
    · subst he; rw [R.not] at hL; cases hL
    · exact key p hn (.inr ⟨by omega, hL⟩))
theorem Ctx.addH (C : Ctx P ext nt fu ops es σ τ) {L : Nat → Bool} {i : Nat} {e : Ent} (R : ZcY es L i e) (k : Nat) : HL es (Z7 L i) (σ 0) k = if Dk e.r k then e.s'.h.get k else HL es L (σ 0) k := by
  have hi : i < es.length := (List.getElem?_eq_some_iff.1 R.at_).1
  have := Zf4 (D := ZbR es k) (V := ZeM es k) (x0 := (σ 0).h.get k) i es.length hi R.not fun p hp hn hL hD => by
    obtain ⟨d, hd⟩ := C.get hn
    obtain ⟨_, _, _, g4⟩ := C.loose R hd (.inr ⟨hp, hL⟩)
    unfold ZbR at hD ⊢
    rw [hd] at hD
    rw [R.at_]
    simp only at hD ⊢
    cases hdk : Dk e.r k with
    | false => rfl
    | true => exact (g4 k hD hdk).elim
  unfold HL
  rw [this]
  unfold ZbR ZeM
  rw [R.at_]
theorem Ctx.addT (C : Ctx P ext nt fu ops es σ τ) {L : Nat → Bool} {i : Nat} {e : Ent} (R : ZcY es L i e) (t : Nat) : TL es (Z7 L i) (τ 0) t = if e.o.dst = some t then some e.v else TL es L (τ 0) t := by
  have hi : i < es.length := (List.getElem?_eq_some_iff.1 R.at_).1
  have := Zf4 (D := ZcN es t) (V := ZeN es) (x0 := (τ 0).get t) i es.length hi R.not fun p hp hn hL hD => by
    obtain ⟨d, hd⟩ := C.get hn
    obtain ⟨_, g2, _⟩ := C.loose R hd (.inr ⟨hp, hL⟩)
    unfold ZcN at hD ⊢
    rw [hd] at hD
    rw [R.at_]
    simp only at hD ⊢
    cases hdk : e.o.dst == some t with
    | false => rfl
    | true => exact absurd (by simpa using hdk) (g2 t (by simpa using hD))
  unfold TL
  rw [this]
  unfold ZcN ZeN
  rw [R.at_]
  simp only
  by_cases hb : e.o.dst = some t
  · simp [hb]
  · have : (e.o.dst == some t) = false := by simpa using hb
    rw [this, if_neg hb]
    simp
end
end Ev
end Go.Proofs.YtldlnclkdgfahaaGreat
/- A region that draws its order: any order comes to the same. -/
namespace Go.Proofs.YtldlnclkdgfahaaGreat
open Go.RowKit
namespace Ev
section
variable {P : Program} {ext : FuncId → Option Ext}

theorem ZcO {ops : Array Oper} {listed : Array Bool} (hs : listed.size = ops.size) {i : Nat} : i ∈ Region.ready .any ops listed ↔ ∃ o, ops[i]? = some o ∧ listed.getD i false = false ∧ ∀ d ∈ o.after.toList, Region.binds .any d = true → listed.getD d.on false = true := by
 unfold Region.ready
 rw [List.mem_filter]
 simp only [List.mem_range, Bool.and_eq_true, Bool.not_eq_true']
 constructor
 ·rintro ⟨hi, h1, h2⟩
  have ho : ops[i]? = some ops[i] := Array.getElem?_eq_getElem hi
  rw [ho] at h2
  simp only [Option.map_some, Option.getD_some, Array.all_eq_true', Bool.or_eq_true, Bool.not_eq_true'] at h2
  refine ⟨ops[i], ho, ?_, fun d hd hb => ?_⟩
  ·have hl : i < listed.size := by omega
   simpa [Array.getD, hl] using h1
  ·rcases h2 d (by simpa using hd) with h | h
   ·rw [hb] at h; cases h
   ·exact h
 ·rintro ⟨o, ho, h1, h2⟩
  have hi : i < ops.size := (Array.getElem?_eq_some_iff.1 ho).1
  have hl : i < listed.size := by omega
  refine ⟨hi, by simpa [Array.getD, hl] using h1, ?_⟩
  rw [ho]
  simp only [Option.map_some, Option.getD_some, Array.all_eq_true', Bool.or_eq_true, Bool.not_eq_true']
  intro d hd
  cases hb : Region.binds .any d with
  | false => exact .inl rfl
  | true => exact .inr (h2 d (by simpa using hd) hb)
def cnt (L : Nat → Bool) : Nat → Nat
 | 0 => 0
 | p + 1 => cnt L p + if L p then 0 else 1
theorem Zf5 {L : Nat → Bool} {i : Nat} (hL : L i = false) : ∀ p, (p ≤ i → cnt (Z7 L i) p = cnt L p) ∧ (i < p → cnt (Z7 L i) p + 1 = cnt L p)
 | 0 => ⟨fun _ => rfl, fun h => by omega⟩
 | p + 1 => by
  obtain ⟨h1, h2⟩ := Zf5 hL p
  refine ⟨fun h => ?_, fun h => ?_⟩
  ·have : Z7 L i p = L p := by unfold Z7; rw [if_neg (by omega)]
   rw [cnt, cnt, h1 (by omega), this]
  ·by_cases he : p = i
   ·subst he
    have : Z7 L p p = true := by simp [Z7]
    rw [cnt, cnt, h1 (Nat.le_refl _), this, hL]
    simp
   ·have : Z7 L i p = L p := by unfold Z7; rw [if_neg he]
    rw [cnt, cnt, this]
    have := h2 (by omega)
    omega
theorem ZeO {L : Nat → Bool} : ∀ p, cnt L p = 0 → ∀ j, j < p → L j = true
 | 0, _, j, hj => by omega
 | p + 1, h, j, hj => by
  rw [cnt] at h
  by_cases he : j = p
  ·subst he
   cases hL : L j with
   | true => rfl
   | false => rw [hL] at h; simp at h
  ·exact ZeO p (by omega) j (by omega)
theorem Zdp {a : Act} {dst : Option Tmp} {nt : Nat} (hs : a.tmps.size = nt) (hd : Za1 nt dst = true) (v : Value) (t : Nat) : (a.put dst v).tmps.getD t undef = if dst = some t then v else a.tmps.getD t undef := by
 cases dst with
 | none => simp [Act.put]
 | some d =>
  have hlt : d < a.tmps.size := by rw [hs]; simpa [Za1, Nat.blt_eq] using hd
  simp only [Act.put]
  by_cases ht : d = t
  ·subst ht
   simp [Array.getD, hlt]
  ·have : ¬ (some d = some t) := by simpa using ht
   rw [if_neg this]
   simp [Array.getD_eq_getD_getElem?, Array.getElem?_setIfInBounds_ne ht]
variable {nt fu : Nat} {ops : Array Oper} {es : List Ent} {σ : Nat → St} {τ : Nat → Tr Value}
structure Inv (P : Program) (nt : Nat) (D : List Deferred) (es : List Ent) (σ : Nat → St) (τ : Nat → Tr Value) (ι0 : Ren) (w0 : World) (L : Nat → Bool) (a : Act) (w : World) (ι : Ren) : Prop where
 step : Step P ι0 (σ 0).h.get w0 ι (HL es L (σ 0)) w
 dom : ∀ k, ι k ≠ none → ι0 k ≠ none ∨ far ≤ k ∨ ∃ j, L j = true ∧ j < es.length ∧ (σ j).n ≤ k ∧ k < (σ (j + 1)).n
 size : a.tmps.size = nt
 defers : a.defers = D
 temps : ∀ t, VR ι ((TL es L (τ 0) t).getD undef) (a.tmps.getD t undef)
theorem Ctx.order {D : List Deferred} (C : Ctx P ext nt fu ops es σ τ) {ι0 : Ren} {w0 : World} (hf : Fresh ι0 (σ 0).n (σ es.length).n) {Q : Exit → Act → World → Prop}
  (hQ : ∀ ι a w, Step P ι0 (σ 0).h.get w0 ι (σ es.length).h.get w → Dom ι0 ι (σ 0).n (σ es.length).n → TR ι nt D (τ es.length) a → Q .normal a w) :
  ∀ (fuel : Nat) (listed : Array Bool) (a : Act) (w : World) (ι : Ren), listed.size = ops.size → cnt (fun j => listed.getD j false) es.length ≤ fuel → ZdL es (fun j => listed.getD j false) → Inv P nt D es σ τ ι0 w0 (fun j => listed.getD j false) a w ι →
   wpAny P .any ops Q fuel listed a w := by
 -- all are listed
 have fin : ∀ (listed : Array Bool) (a : Act) (w : World) (ι : Ren), (∀ j, j < es.length → listed.getD j false = true) → Inv P nt D es σ τ ι0 w0 (fun j => listed.getD j false) a w ι → Q .normal a w := fun listed a w ι hall I => by
  have hH : HL es (fun j => listed.getD j false) (σ 0) = (σ es.length).h.get := funext fun k =>
   ZbK (S := fun p => (σ p).h.get k) es.length es.length (Nat.le_refl _) (fun p hp => C.chainH k p hp) (fun p hp hL => by rw [hall p hp] at hL; cases hL) (fun p h1 h2 => by omega)
  have hT : ∀ t, TL es (fun j => listed.getD j false) (τ 0) t = (τ es.length).get t := fun t =>
   ZbK (S := fun p => (τ p).get t) es.length es.length (Nat.le_refl _) (fun p hp => C.chainT t p hp) (fun p hp hL => by rw [hall p hp] at hL; cases hL) (fun p h1 h2 => by omega)
  refine hQ ι a w (hH ▸ I.step) (fun k hk => ?_) ⟨I.size, I.defers, fun t => hT t ▸ I.temps t⟩
  rcases I.dom k hk with h | h | ⟨j, _, hj, h1, h2⟩
  ·exact .inl h
  ·exact .inr (.inr h)
  ·have := C.mono (i := 0) (j := j) (by omega) (by omega)
   have := C.mono (i := j + 1) (j := es.length) (by omega) (Nat.le_refl _)
   exact .inr (.inl ⟨by omega, by omega⟩)
 have none_ready : ∀ (listed : Array Bool), listed.size = ops.size → Region.ready .any ops listed = [] → ∀ j, j < es.length → listed.getD j false = true := fun listed hs hr => by
  intro j
  induction j using Nat.strongRecOn with
  | _ j ih =>
   intro hj
   obtain ⟨e, he⟩ := C.get hj
   cases hL : listed.getD j false with
   | true => rfl
   | false =>
    exfalso
    have hm : j ∈ Region.ready .any ops listed := (ZcO hs).2 ⟨e.o, C.op j e he, hL, fun d hd hb => by
     have := ZcL (C.ok j e he).edges d hd hb
     rw [List.length_take] at this
     exact ih d.on (by omega) (by omega)⟩
    rw [hr] at hm
    cases hm
 intro fuel
 induction fuel with
 | zero =>
  intro listed a w ι hs hc _ I
  have hall := ZeO es.length (by omega : cnt (fun j => listed.getD j false) es.length = 0)
  refine ⟨?_, fin listed a w ι hall I⟩
  cases hr : Region.ready .any ops listed with
  | nil => rfl
  | cons i l =>
   obtain ⟨o, ho, h1, _⟩ := (ZcO hs).1 (show i ∈ Region.ready .any ops listed by rw [hr]; simp)
   have hi : i < es.length := by rw [C.len]; exact (Array.getElem?_eq_some_iff.1 ho).1
   have := hall i hi
   rw [h1] at this
   cases this
 | succ fuel ih =>
  intro listed a w ι hs hc hcl I
  refine ⟨fun hr => fin listed a w ι (none_ready listed hs hr) I, fun i hi => ?_⟩
  obtain ⟨o, ho, h1, h2⟩ := (ZcO hs).1 hi
  have hin : i < es.length := by rw [C.len]; exact (Array.getElem?_eq_some_iff.1 ho).1
  obtain ⟨e, he⟩ := C.get hin
  have heo : e.o = o := by have := C.op i e he; rw [ho] at this; exact (Option.some.inj this).symm
  subst heo
  have R : ZcY es (fun j => listed.getD j false) i e := ⟨he, hcl, h1, h2⟩
  obtain ⟨rk, rn0, rn1, _, rsh⟩ := C.rok i e he
  have hK : ∀ k o', Kof e k = some o' → HL es (fun j => listed.getD j false) (σ 0) k = some o' := fun k o' hk => by
   unfold Kof at hk
   split at hk
   ·rename_i hsm
    rw [ZbJ] at hk
    split at hk
    ·rename_i hm
     rw [C.agreeH R k (fun _ => hm) (fun e => by rw [hsm] at e; cases e)]
     rw [← rsh]; exact hk
    ·cases hk
   ·rename_i hsm
    rw [rsh] at hk
    rw [C.agreeH R k (fun e => absurd e hsm) (fun _ => C.live i (by omega) k (by rw [hk]; rfl))]
    exact hk
  have hfr : Fresh ι (σ i).n (σ (i + 1)).n := ⟨Nat.le_trans (C.mono (i := i + 1) (j := es.length) (by omega) (Nat.le_refl _)) hf.1, fun k k1 k2 => by
   cases hk : ι k with
   | none => rfl
   | some c =>
    exfalso
    have m1 := C.mono (i := 0) (j := i) (by omega) (by omega)
    have m2 := C.mono (i := i + 1) (j := es.length) (by omega) (Nat.le_refl _)
    rcases I.dom k (by rw [hk]; simp) with h | h | ⟨j, hj, hjn, q1, q2⟩
    ·exact h (hf.2 k (by omega) (by omega))
    ·have := hf.1; omega
    ·by_cases hji : j = i
     ·subst hji
      have hj' : listed.getD j false = true := hj
      rw [h1] at hj'; cases hj'
     ·rcases Nat.lt_or_ge j i with h | h
      ·have := C.mono (i := j + 1) (j := i) (by omega) (by omega); omega
      ·have := C.mono (i := i + 1) (j := j) (by omega) (by omega); omega⟩
  have hil : i < listed.size := by rw [hs, ← C.len]; exact hin
  have hL' : (fun j => (listed.setIfInBounds i true).getD j false) = Z7 (fun j => listed.getD j false) i := funext fun j => by
   unfold Z7
   by_cases hj : j = i
   ·subst hj; simp [Array.getD, hil]
   ·rw [if_neg hj]
    simp [Array.getD_eq_getD_getElem?, Array.getElem?_setIfInBounds_ne (fun e => hj e.symm)]
  refine C.sem i e he ι w a _ Q (fun t ht => ?_) (I.step.emb.sub hK) hfr fun v' w' ι' st dm hv => ?_
  ·rw [← C.agreeT R t ht]
   exact I.temps t
  ·-- the others stay
   have hX1 : join (Kof e) (fun k => if (Kof e k).isSome then none else HL es (fun j => listed.getD j false) (σ 0) k) = HL es (fun j => listed.getD j false) (σ 0) := funext fun k => by
    cases hk : Kof e k with
    | some o' => rw [ZL (by rw [hk]; rfl), hk, hK k o' hk]
    | none => rw [Z0 hk, hk]; rfl
   have hX2 : join (ZeK e) (fun k => if (Kof e k).isSome then none else HL es (fun j => listed.getD j false) (σ 0) k) = HL es (Z7 (fun j => listed.getD j false) i) (σ 0) := funext fun k => by
    rw [C.addH R k]
    unfold join ZeK
    cases hd : Dk e.r k with
    | false =>
     simp only [Bool.false_eq_true, if_false]
     cases hk : Kof e k with
     | some o' => exact (hK k o' hk).symm
     | none => rfl
    | true =>
     simp only [if_true]
     cases hs' : e.s'.h.get k with
     | some o' => rfl
     | none =>
      simp only
      split
      ·rfl
      ·rename_i hn
       have hkn : Kof e k = none := by
        cases hk : Kof e k with
        | none => rfl
        | some o' => rw [hk] at hn; exact absurd rfl hn
       rcases Zax.1 hd with ⟨q1, q2⟩ | ⟨q1, q2⟩
       ·have hlt := rk.lt k q2
        rw [C.agreeH R k (fun _ => List.mem_append_left _ q2) (fun _ => by omega)]
        unfold Kof at hkn
        split at hkn
        ·rw [ZbJ, if_pos (List.mem_append_left _ q2), rsh] at hkn; exact hkn
        ·rw [rsh] at hkn; exact hkn
       ·cases hx : HL es (fun j => listed.getD j false) (σ 0) k with
        | none => rfl
        | some o' =>
         obtain ⟨b, hb⟩ := I.step.emb.live (k := k) (by rw [hx]; rfl)
         have := hfr.2 k (by omega) (by omega)
         rw [this] at hb
         cases hb
   have fr := Step.framed st (x := fun k => if (Kof e k).isSome then none else HL es (fun j => listed.getD j false) (σ 0) k) (by rw [hX1]; exact I.step.emb) (fun k hk => by
    cases hkk : Kof e k with
    | none => rfl
    | some o' => simp only [hkk] at hk; simp at hk)
   rw [hX1, hX2] at fr
   have hdst := (C.ok i e he).dst
   refine ih (listed.setIfInBounds i true) _ w' ι' (by simpa using hs) ?_ ?_ ?_
   ·rw [hL']
    have := (Zf5 (L := fun j => listed.getD j false) (i := i) h1 es.length).2 hin
    omega
   ·rw [hL']
    intro j d hd hj x hx hb
    unfold Z7 at hj ⊢
    split
    ·rfl
    ·by_cases hji : j = i
     ·subst hji
      rw [he] at hd; injection hd with hd; subst hd
      exact h2 x hx hb
     ·rw [if_neg hji] at hj
      exact hcl j d hd hj x hx hb
   ·rw [hL']
    refine ⟨I.step.trans fr, fun k hk => ?_, ?_, ?_, fun t => ?_⟩
    ·rcases dm k hk with h | ⟨q1, q2⟩ | h
     ·rcases I.dom k h with h | h | ⟨j, hj, hjn, q1, q2⟩
      ·exact .inl h
      ·exact .inr (.inl h)
      ·exact .inr (.inr ⟨j, by unfold Z7; split <;> first | rfl | exact hj, hjn, q1, q2⟩)
     ·exact .inr (.inr ⟨i, by simp [Z7], hin, q1, q2⟩)
     ·exact .inr (.inl h)
    ·have := I.size
     cases e.o.dst <;> simp [Act.put, this]
    ·have := I.defers
     cases e.o.dst <;> simp [Act.put, this]
    ·rw [C.addT R t, Zdp I.size hdst]
     by_cases hdt : e.o.dst = some t
     ·rw [if_pos hdt, if_pos hdt]; exact hv
     ·rw [if_neg hdt, if_neg hdt]; exact (I.temps t).ext fr.ext
end
end Ev
end Go.Proofs.YtldlnclkdgfahaaGreat
/- A region that draws its order: from the run in the text's order to any order. -/
namespace Go.Proofs.YtldlnclkdgfahaaGreat
open Go.RowKit
namespace Ev
section
variable {P : Program} {ext : FuncId → Option Ext}

noncomputable def SOp (P : Program) (ext : FuncId → Option Ext) (fu : Nat) : Prop :=
  ∀ (ρ ρ' : Operand → Value) (o : Oper) (s : St) (v : Value) (s' : St), Za4 P ext fu ρ o s = some (v, s') → (∀ p ∈ s'.ob, p.1 = p.2) → ∀ (ι : Ren) (w : World), (∀ x, VR ι (ρ x) (ρ' x)) → Emb P ι s.h.get w → Fresh ι s.n s'.n →
    ∀ (a : Act) (K : Act → World → Prop) (Q : Exit → Act → World → Prop), execOp a.eval o = execOp ρ' o → (∀ v' w' ι', Step P ι s.h.get w ι' s'.h.get w' → Dom ι ι' s.n s'.n → VR ι' v v' → K (a.put o.dst v') w') → o.wp P a w K Q
noncomputable def K0 (r : Rec) (s : St) : AH := if r.small then (ZbF s.h (r.t ++ r.q)).get else s.h.get
theorem Zbn {n k : Nat} : ∀ {l : List Nat}, k ∈ Zb9 n l ↔ k ∈ l ∧ k < n
  | [] => by simp [Zb9]
  | x :: l => by
    simp only [Zb9]
    cases hx : Nat.blt x n with
    | true =>
      have : x < n := Nat.le_of_ble_eq_true hx
      simp only [cond_true, List.mem_cons, Zbn (l := l)]
      constructor
      · rintro (rfl | ⟨h1, h2⟩)
        · exact ⟨.inl rfl, this⟩
        · exact ⟨.inr h1, h2⟩
      · rintro ⟨rfl | h1, h2⟩
        · exact .inl rfl
        · exact .inr ⟨h1, h2⟩
    | false =>
      have : ¬ x < n := fun e => by rw [show Nat.blt x n = true from Nat.ble_eq_true_of_le e] at hx; cases hx
      simp only [cond_false, List.mem_cons, Zbn (l := l)]
      constructor
      · rintro ⟨h1, h2⟩; exact ⟨.inr h1, h2⟩
      · rintro ⟨rfl | h1, h2⟩
        · exact absurd h2 this
        · exact ⟨h1, h2⟩
theorem Zed (F : Fit P ext) {fu : Nat} {ρ : Operand → Value} {o : Oper} {s s' : St} {v : Value} {r : Rec} (h : Zbk P ext (fu + 1) ρ o s = some (v, s', r)) :
    Zd5 r ∧ r.n0 = s.n ∧ r.n1 = s'.n ∧ (∀ k, Dk r k = false → s'.h.get k = s.h.get k) ∧
    ∃ (s0 s1 : St), Za4 P ext fu ρ o s0 = some (v, s1) ∧ s0.n = s.n ∧ s1.n = s'.n ∧ s1.ob = s'.ob ∧ s0.h.get = K0 r s ∧ s1.h.get = fun k => if Dk r k then s'.h.get k else K0 r s k := by
  have ndk : ∀ {k : Nat}, Dk r k = false → ¬ ((r.w = true ∧ k ∈ r.t) ∨ (r.n0 ≤ k ∧ k < r.n1)) := fun {k} hd hn => by rw [Zax.2 hn] at hd; cases hd
  simp only [Zbk] at h
  split at h
  · split at h
    · rename_i v1 s1 h1
      obtain ⟨hall, h⟩ := Zb h
      injection h with h
      simp only [Prod.mk.injEq] at h
      obtain ⟨rfl, rfl, rfl⟩ := h
      have u := (ZB (P := P) (ext := ext) (fun f g hg => (F.hp f g hg).up) fu).2.2.1 _ _ _ _ _ h1
      obtain ⟨l, e1, e2⟩ := u.log
      simp only [List.append_nil] at e1
      subst e1
      have same : ∀ k, Dk ⟨false, true, Zb9 s.n s1.wr, s.n, s1.n, []⟩ k = false → s1.h.get k = s.h.get k := fun k hd => by
        have hn := ndk hd
        refine e2 k (fun hk => hn ?_) (fun hk => hn (.inr hk))
        have hk1 : k < s1.n := Nat.le_of_ble_eq_true (Zj hall k hk)
        by_cases hks : k < s.n
        · exact .inl ⟨rfl, Zbn.2 ⟨hk, hks⟩⟩
        · exact .inr ⟨Nat.not_lt.1 hks, hk1⟩
      refine ⟨⟨fun k hk => (Zbn.1 hk).2, (fun k hk => by cases hk), u.n, fun _ => rfl⟩, rfl, rfl, same, _, s1, h1, rfl, rfl, rfl, rfl, funext fun k => ?_⟩
      split
      · rfl
      · rename_i hd
        exact same k (by simpa using hd)
    · cases h
  · generalize hw : (Za6 s ρ o).1 = w at h
    generalize ht : (Za6 s ρ o).2 = t at h
    generalize hq : Zcd ρ o = q at h
    obtain ⟨hltq, h⟩ := Zb h
    obtain ⟨hlt, hlq⟩ := (Bool.and_eq_true _ _).mp hltq
    split at h
    · rename_i v1 s1 h1
      obtain ⟨hall, h⟩ := Zb h
      simp only [Bool.and_eq_true] at hall
      injection h with h
      simp only [Prod.mk.injEq] at h
      obtain ⟨rfl, rfl, rfl⟩ := h
      have u := (ZB (P := P) (ext := ext) (fun f g hg => (F.hp f g hg).up) fu).2.2.1 _ _ _ _ _ h1
      obtain ⟨l, e1, e2⟩ := u.log
      simp only [List.append_nil] at e1
      subst e1
      have hle : s1.n ≤ s.n + 1 := Nat.le_of_ble_eq_true hall.2
      have hge : s.n ≤ s1.n := u.n
      have htl : ∀ k ∈ t, k < s.n := fun k hk => Nat.le_of_ble_eq_true (Zj hlt k hk)
      have hwr : ∀ k ∈ s1.wr, w = true ∧ k ∈ t := fun k hk => by
        have := Zj hall.1 k hk
        simp only [Bool.and_eq_true, ZaN] at this
        exact this
      have gets : ∀ k, ((bif w then ZcV s1.h t s.h else s.h).set s.n (bif Nat.beq s1.n s.n then s.h.get s.n else s1.h.get s.n)).get k =
          if k = s.n then (bif Nat.beq s1.n s.n then s.h.get s.n else s1.h.get s.n) else if w = true ∧ k ∈ t then s1.h.get k else s.h.get k := fun k => by
        rw [Tr.get_set]
        unfold upd
        split
        · rfl
        · cases w with
          | false => simp
          | true =>
            simp only [cond_true, true_and]
            rw [ZcH]
      refine ⟨⟨htl, fun k hk => Nat.le_of_ble_eq_true (Zj hlq k hk), hge, fun e => by cases e⟩, rfl, rfl, fun k hd => ?_, _, s1, h1, rfl, rfl, rfl, rfl, funext fun k => ?_⟩
      · have hn := ndk hd
        rw [gets]
        split
        · rename_i hk
          subst hk
          have : s1.n = s.n := by
            rcases Nat.lt_or_ge s.n s1.n with h | h
            · exact absurd (.inr ⟨Nat.le_refl _, h⟩) hn
            · omega
          rw [ZbC this]; rfl
        · split
          · rename_i hk; exact absurd (.inl hk) hn
          · rfl
      · split
        · rename_i hd
          rw [gets]
          rcases Zax.1 hd with ⟨q1, q2⟩ | ⟨q1, q2⟩
          · have := htl k q2
            rw [if_neg (by omega), if_pos ⟨q1, q2⟩]
          · simp only at q1 q2
            have hk : k = s.n := by omega
            subst hk
            rw [if_pos rfl, ZbB (by omega)]; rfl
        · rename_i hd
          have hn := ndk (by simpa using hd)
          show _ = (ZbF s.h (t ++ q)).get k
          exact e2 k (fun hk => hn (.inl (hwr k hk))) (fun hk => hn (.inr hk))
    · cases h
theorem Zcu {t : Tmp} : ∀ {l : List Operand}, t ∈ ZaD l ↔ .tmp t ∈ l
  | [] => by simp [ZaD]
  | x :: l => by cases x <;> simp [ZaD, Zcu (l := l)]
theorem Zee {T : Tr Value} (t : Nat) : ∀ (l : List Tmp), (ZcW T l).get t = if t ∈ l then T.get t else none
  | [] => by simp [ZcW, Tr.get_nil]
  | j :: l => by
    rw [ZcW, Tr.get_set]
    by_cases hk : t = j
    · subst hk; rw [Zc]; simp
    · rw [Za hk, Zee t l]
      simp [hk]
theorem Zcv {fu : Nat} {ρ : Operand → Value} {o : Oper} {s s' : St} {v : Value} (h : Za4 P ext fu ρ o s = some (v, s')) : ∀ cs b, o.op ≠ .select cs b := fun cs b hsel => by
  cases fu with
  | zero => simp [Za4] at h
  | succ fu =>
    have h1 : ev1 P ρ o s = none := by unfold ev1; rw [hsel]
    simp only [Za4, Zc8, hsel, h1] at h
    cases h
theorem ZeP (F : Fit P ext) {nt fu : Nat} {D : List Deferred} {ops : Array Oper} {es : List Ent} {T T' : Tr Value} {s s' : St} (hS : ∀ fu', fu' < fu → SOp P ext fu') (h : ZK P ext nt fu ops [] ops.toList T s = some (es, T', s')) (ho : ∀ p ∈ s'.ob, p.1 = p.2)
    {ι : Ren} {a : Act} {w : World} {Q : Exit → Act → World → Prop} (hT : TR ι nt D T a) (he : Emb P ι s.h.get w) (hf : Fresh ι s.n s'.n)
    (hQ : ∀ ι' a' w', Step P ι s.h.get w ι' s'.h.get w' → Dom ι ι' s.n s'.n → TR ι' nt D T' a' → Q .normal a' w') : wpAny P .any ops Q ops.size (Array.replicate ops.size false) a { w with drawn := w.drawn + 1 } := by
  obtain ⟨es2, σ, τ, h1, h2, h3, h4, h5, h6, h7⟩ := Zd6 nt ops fu _ _ _ _ _ _ _ h
  simp only [List.nil_append] at h1 h7
  subst h1
  have hlen : es.length = ops.size := by rw [← List.length_map (f := (·.o)), h2]; simp
  have hN : ops.toList.length = es.length := by rw [hlen]; simp
  rw [hN] at h5 h6
  have hop : ∀ (i : Nat) (e : Ent), es[i]? = some e → ops[i]? = some e.o := fun i e hi => by
    have : (es.map (·.o))[i]? = some e.o := by simp [hi]
    rw [h2] at this
    simpa using this
  have hup : ∀ (i : Nat) (e : Ent), es[i]? = some e → Up (σ i) e.s ∧ Up e.s e.s' := fun i e hi => by
    obtain ⟨b, q1, q2, q3⟩ := (h7 i e hi).run
    refine ⟨Zz q1, ?_⟩
    cases b with
    | true =>
      obtain ⟨fu', _, hv⟩ := q2 rfl
      exact (ZB (P := P) (ext := ext) (fun f g hg => (F.hp f g hg).up) fu').2.2.2.2.2 _ _ _ _ _ _ hv
    | false => obtain ⟨_, e1, _⟩ := q3 rfl; rw [e1]; exact Up.refl _
  have upn : ∀ m i, i + m = es.length → Up (σ i) (σ es.length) := by
    intro m
    induction m with
    | zero => intro i hi; obtain rfl : i = es.length := by omega
              exact Up.refl _
    | succ m ih =>
      intro i hi
      have hlt : i < es.length := by omega
      obtain ⟨u1, u2⟩ := hup i es[i] (List.getElem?_eq_getElem hlt)
      have := ih (i + 1) (by omega)
      rw [(h7 i es[i] (List.getElem?_eq_getElem hlt)).es'] at this
      exact (u1.trans u2).trans this
  have hob : ∀ (i : Nat) (e : Ent), es[i]? = some e → ∀ p ∈ e.s'.ob, p.1 = p.2 := fun i e hi => by
    have hlt : i < es.length := (List.getElem?_eq_some_iff.1 hi).1
    have u := upn (es.length - (i + 1)) (i + 1) (by omega)
    rw [(h7 i e hi).es', h5] at u
    exact Zm u.ob ho
  -- a test answered so is so
  have hst : ∀ (i : Nat) (e : Ent), es[i]? = some e → e.s.h = (σ i).h ∧ e.s.n = (σ i).n := fun i e hi => by
    obtain ⟨b, q1, _, _⟩ := (h7 i e hi).run
    unfold Zac at q1
    split at q1
    · injection q1 with q1; injection q1 with g1 g2; rw [← g2]; exact ⟨rfl, rfl⟩
    · split at q1
      · split at q1
        · injection q1 with q1; injection q1 with g1 g2; rw [← g2]; exact ⟨rfl, rfl⟩
        · injection q1 with q1; injection q1 with g1 g2; rw [← g2]; exact ⟨rfl, rfl⟩
        · cases q1
      · cases q1
  have hrec : ∀ (i : Nat) (e : Ent), es[i]? = some e → Zd5 e.r ∧ e.r.n0 = (σ i).n ∧ e.r.n1 = (σ (i + 1)).n ∧ (∀ k, Dk e.r k = false → (σ (i + 1)).h.get k = (σ i).h.get k) ∧ e.s.h = (σ i).h := fun i e hi => by
    obtain ⟨g1, g2⟩ := hst i e hi
    obtain ⟨b, q1, q2, q3⟩ := (h7 i e hi).run
    rw [(h7 i e hi).es']
    cases b with
    | true =>
      obtain ⟨fu', _, hv⟩ := q2 rfl
      cases fu' with
      | zero => simp [Zbk] at hv
      | succ fu' =>
        obtain ⟨r1, r2, r3, r4, _⟩ := Zed F hv
        exact ⟨r1, by rw [r2, g2], r3, fun k hk => by rw [r4 k hk, g1], g1⟩
    | false =>
      obtain ⟨_, e1, e2⟩ := q3 rfl
      rw [e1, e2]
      exact ⟨⟨fun k hk => by simp [ZbA] at hk, fun k hk => by simp [ZbA] at hk, Nat.le_refl _, fun e => by simp [ZbA] at e⟩, g2, rfl, fun k _ => by rw [g1], g1⟩
  have C : Ctx P ext nt fu ops es σ τ := by
    refine ⟨hlen, hop, h7, hrec, fun k hk => ?_, fun i e hi ι1 w1 a1 K Q1 ht1 he1 hf1 hK => ?_⟩
    · rw [h3] at hk ⊢
      rw [h5]
      rintro ⟨k1, k2⟩
      obtain ⟨b, hb⟩ := he.live hk
      rw [hf.2 k k1 k2] at hb
      cases hb
    · obtain ⟨g1, g2⟩ := hst i e hi
      obtain ⟨b, q1, q2, q3⟩ := (h7 i e hi).run
      have hes' := (h7 i e hi).es'
      have hlt : i < es.length := (List.getElem?_eq_some_iff.1 hi).1
      obtain ⟨hwant, _, _⟩ := ZU ht1 q1
      unfold wpOp
      rw [hop i e hi]
      simp only
      cases b with
      | true =>
        rw [if_pos hwant]
        obtain ⟨fu', hfu, hv⟩ := q2 rfl
        cases fu' with
        | zero => simp [Zbk] at hv
        | succ fu' =>
          obtain ⟨r1, r2, r3, r4, s0, s1, hv1, n0, n1, ob1, hh0, hh1⟩ := Zed F hv
          refine .inl (hS fu' (by omega) _ (fun x => match x with | .tmp t => if t ∈ ZaD e.o.op.operands.toList then a1.tmps.getD t undef else undef | x => Zv a1 x) e.o s0 e.v s1 hv1 (by rw [ob1]; exact hob i e hi) ι1 w1 (fun x => ?_) ?_ ?_ a1 K Q1 ?_ fun v' w' ι' k1 k2 k3 => ?_)
          · cases x with
            | tmp t =>
              simp only [opnd]
              rw [Zee]
              by_cases htm : t ∈ ZaD e.o.op.operands.toList
              · rw [if_pos htm, if_pos htm]
                refine ht1 t ?_
                unfold Oper.looksAt
                refine List.mem_append_left _ (List.mem_filterMap.2 ⟨.tmp t, Zcu.1 htm, rfl⟩)
              · rw [if_neg htm, if_neg htm]; exact VR.undef'
            | const v =>
              simp only [opnd, Zv]
              cases hfv : ZF v
              · exact VR.undef'
              · exact VR.of_free hfv
            | global g => exact .glob rfl
            | func f => exact .atom rfl
          · rw [hh0]; exact he1
          · rw [n0, n1, g2, ← hes']; exact hf1
          · refine execOp_congr e.o (fun cs b hsel => ?_) fun x hx => ?_
            · exact Zcv hv1 cs b hsel
            · have hg := Zj (h7 i e hi).good x (by simpa using hx)
              cases x with
              | tmp t => simp only; rw [if_pos (Zcu.2 (by simpa using hx))]; rfl
              | const v => simp only [Zau] at hg; simp [Zv, hg, Act.eval]
              | global g => rfl
              | func f => rfl
          · rw [hh0, hh1] at k1
            rw [n0, n1, g2, ← hes'] at k2
            exact hK v' w' ι' k1 k2 k3
      | false =>
        obtain ⟨e0, e1, e2⟩ := q3 rfl
        rw [if_neg (by rw [hwant]; simp)]
        refine hK undef w1 ι1 ?_ Dom.refl (by rw [e0]; exact VR.undef')
        have : ZeK e = Kof e := funext fun k => by
          unfold ZeK
          rw [e2]
          have : Dk (ZbA e.s) k = false := by
            cases hd : Dk (ZbA e.s) k with
            | false => rfl
            | true =>
              rcases Zax.1 hd with ⟨q, _⟩ | ⟨q1, q2⟩
              · simp [ZbA] at q
              · simp only [ZbA] at q1 q2; omega
          rw [this]; rfl
        rw [this]
        exact Step.refl he1
  have none0 : ∀ {β : Type} (D : Nat → Bool) (V : Nat → β) (x0 : β) (L : Nat → Bool), (∀ j, L j = false) → ∀ n, ovf L D V x0 n = x0 := fun D V x0 L hL n => by
    induction n with
    | zero => rfl
    | succ n ih => rw [ovf, hL n, ih]; simp
  have hL0 : ∀ j, (Array.replicate ops.size false).getD j false = false := fun j => by
    simp only [Array.getD_eq_getD_getElem?, Array.getElem?_replicate]
    split <;> rfl
  have hH0 : HL es (fun j => (Array.replicate ops.size false).getD j false) (σ 0) = (σ 0).h.get := funext fun k => none0 _ _ _ _ hL0 _
  have hT0 : ∀ t, TL es (fun j => (Array.replicate ops.size false).getD j false) (τ 0) t = (τ 0).get t := fun t => none0 _ _ _ _ hL0 _
  have hs0 : Step P ι (σ 0).h.get w ι (σ 0).h.get { w with drawn := w.drawn + 1 } := Step.still (by rw [h3]; exact he) rfl rfl rfl rfl
  refine C.order (ι0 := ι) (w0 := w) (by rw [h3, h5]; exact hf) (Q := Q) (fun ι' a' w' k1 k2 k3 => ?_) ops.size _ a _ ι (by simp) ?_ ?_ ⟨by rw [hH0]; exact hs0, fun k hk => .inl hk, hT.1, hT.2.1, fun t => by rw [hT0, h4]; exact hT.2.2 t⟩
  · rw [h3, h5] at k1 k2
    rw [h6] at k3
    exact hQ ι' a' w' k1 k2 k3
  · rw [← hlen]
    have : ∀ n, cnt (fun j => (Array.replicate es.length false).getD j false) n ≤ n := fun n => by
      induction n with
      | zero => exact Nat.le_refl _
      | succ n ih => rw [cnt]; split <;> omega
    exact this _
  · intro i e _ hi
    exact absurd ((hL0 i).symm.trans hi) (by decide)
theorem ZfY (F : Fit P ext) {nt fu : Nat} {D : List Deferred} {ops : Array Oper} {es : List Ent} {T T' : Tr Value} {s s' : St} (hS : ∀ fu', fu' < fu → SOp P ext fu') (h : ZK P ext nt fu ops [] ops.toList T s = some (es, T', s')) (ho : ∀ p ∈ s'.ob, p.1 = p.2)
    {ι : Ren} {a : Act} {w : World} {Q : Exit → Act → World → Prop} {id : Nat} (hT : TR ι nt D T a) (he : Emb P ι s.h.get w) (hf : Fresh ι s.n s'.n)
    (hQ : ∀ ι' a' w', Step P ι s.h.get w ι' s'.h.get w' → Dom ι ι' s.n s'.n → TR ι' nt D T' a' → Q .normal a' w') : (Code.region id ops true).wp P Q a w :=
  wp_region_any F.mixed (ZeP F hS h ho hT he hf hQ)
end
end Ev
end Go.Proofs.YtldlnclkdgfahaaGreat
/- The runner against the model: what it says holds in every world. -/
namespace Go.Proofs.YtldlnclkdgfahaaGreat
open Go.RowKit
namespace Ev
section
variable {P : Program} {ext : FuncId → Option Ext}

def ZY (P : Program) (ι : Ren) (s : St) (w : World) (nt : Nat) (D : List Deferred) (e : Ex) (T' : Tr Value) (s' : St) (ex : Exit) (a' : Act) (w' : World) : Prop :=
 ex = e.out ∧ ∃ ι', Step P ι s.h.get w ι' s'.h.get w' ∧ Dom ι ι' s.n s'.n ∧ TR ι' nt D T' a'
theorem Step.two {ι ι1 ι2 : Ren} {s s1 s2 : St} {w w1 w2 : World} (a : Step P ι s.h.get w ι1 s1.h.get w1 ∧ Dom ι ι1 s.n s1.n) (b : Step P ι1 s1.h.get w1 ι2 s2.h.get w2 ∧ Dom ι1 ι2 s1.n s2.n) (h1 : s.n ≤ s1.n) (h2 : s1.n ≤ s2.n) :
  Step P ι s.h.get w ι2 s2.h.get w2 ∧ Dom ι ι2 s.n s2.n := ⟨a.1.trans b.1, a.2.trans b.2 h1 h2⟩
theorem Zfv {o : Oper} {c : Call} (h : Zc8 o = some c) : o.op = .call c ∧ True := by
 unfold Zc8 at h
 split at h
 ·rename_i c' ho
  split at h
  ·rename_i f hf
   injection h with h; subst h
   exact ⟨ho, trivial⟩
  ·injection h with h; subst h
   exact ⟨ho, trivial⟩
  ·cases h
 ·cases h
theorem ZZ {ι : Ren} {a a' b b' : Array Value} (h : VRs ι a a') (k : VRs ι b b') : VRs ι (a ++ b) (a' ++ b') := by
 refine ⟨by simp [h.1, k.1], fun i x y hx hy => ?_⟩
 by_cases hi : i < a.size
 ·rw [Array.getElem?_append_left hi] at hx
  rw [Array.getElem?_append_left (by rw [← h.1]; exact hi)] at hy
  exact h.2 i x y hx hy
 ·rw [Array.getElem?_append_right (by omega)] at hx
  rw [Array.getElem?_append_right (by rw [← h.1]; omega), ← h.1] at hy
  exact k.2 _ x y hx hy
theorem ZeQ {ι : Ren} {ρ ρ' : Operand → Value} {o : Oper} {c : Call} {f : FuncId} {args : Array Value} (hρ : ∀ x, VR ι (ρ x) (ρ' x)) (ho : o.op = .call c) (h : callee ρ c = some (f, args)) (w : World) :
  ∃ args', (execOp ρ' o).run P w = (callFunc f args').run P w ∧ VRs ι args args' := by
 unfold callee at h
 split at h
 ·rename_i x hx
  split at h
  ·rename_i g a b hg
   injection h with h; injection h with h1 h2; subst h1 h2
   have hv := hg ▸ hρ x
   have : ∃ a' b', ρ' x = .func (.func g) a' b' ∧ VRs ι a a' ∧ VRs ι b b' := by
    generalize ρ' x = x' at hv
    cases hv with
    | atom h =>
     simp [Ev.atom] at h
     obtain ⟨rfl, rfl⟩ := h
     exact ⟨_, _, rfl, ⟨rfl, fun i x y hx => by simp at hx⟩, ⟨rfl, fun i x y hx => by simp at hx⟩⟩
    | func hs ht h1 h2 => exact ⟨_, _, rfl, ⟨hs, h1⟩, ⟨ht, h2⟩⟩
   obtain ⟨a', b', hx', ha, hb⟩ := this
   refine ⟨a' ++ c.args.map ρ' ++ b', ?_, ZZ (ZZ ha (Zbu hρ c.args)) hb⟩
   simp [execOp, ho, resolve, hx, hx', Deferred.ofValue, invoke, Result.andThen, Sem.run]
  ·cases h
 ·cases h
theorem Zen {ι : Ren} {ρ ρ' : Operand → Value} {o : Oper} {c : Call} {f : FuncId} {args : Array Value} (hρ : ∀ x, VR ι (ρ x) (ρ' x)) (ho : o.op = .call c) (h : ZdE P ρ c = some (f, args)) (w : World) :
  ∃ args', (execOp ρ' o).run P w = (callFunc f args').run P w ∧ VRs ι args args' := by
 unfold ZdE at h
 split at h
 ·rename_i r name hc
  split at h
  ·rename_i t v hv
   obtain ⟨_, h⟩ := Zb h
   split at h
   ·rename_i g x hm
    obtain ⟨hx, h⟩ := Zb h
    injection h with h
    injection h with h1 h2
    subst h1 h2
    have hr : ρ' r = .iface t v := by
     have hv' := hv ▸ hρ r
     generalize ρ' r = x' at hv'
     cases hv' with
     | atom h => rfl
    refine ⟨#[x] ++ c.args.map ρ', ?_, ZZ ⟨rfl, fun i y z hy hz => by
     rw [hy] at hz
     injection hz with hz
     subst hz
     rcases i with _ | i
     ·simp at hy; subst hy; exact VR.of_free1 hx
     ·simp at hy⟩ (Zbu hρ c.args)⟩
    have hm' := Zco w hm
    have e0 : (#[Value.iface t v] ++ Array.map ρ' c.args)[0]? = some (Value.iface t v) := by
     rw [Array.getElem?_append_left (by simp)]; rfl
    have e2 : (#[Value.iface t v] ++ Array.map ρ' c.args).extract 1 (#[Value.iface t v] ++ Array.map ρ' c.args).size = Array.map ρ' c.args := by
     apply Array.ext'
     simp [Array.toList_extract]
     rw [List.take_of_length_le (by simp)]
    simp only [execOp, ho, resolve, hc, hr, Sem.run_bind, Sem.run_pure, Result.andThen_ok, invoke, e0, callMethod, program, Sem.run, hm', e2]
   ·cases h
  ·cases h
 ·exact ZeQ hρ ho h w
theorem ZbL {ι : Ren} {s s' : St} {w : World} {v : Value} {o : Oper} {a : Act} {K : Act → World → Prop} {Q : Exit → Act → World → Prop} (h : Res P ((execOp a.eval o).run P w) s ι w v s')
  (hK : ∀ v' w' ι', Step P ι s.h.get w ι' s'.h.get w' → Dom ι ι' s.n s'.n → VR ι' v v' → K (a.put o.dst v') w') : o.wp P a w K Q := by
 obtain ⟨nx, w', ι', v', hr, hv, h1, h2, h3⟩ := h
 unfold Oper.wp
 rw [hr]
 rcases hv with rfl | ⟨rfl, rfl⟩
 ·exact hK v' w' ι' h1 h2 h3
 ·exact hK undef w' ι' h1 h2 h3
theorem Zch {ι : Ren} {nt : Nat} {args args' : Array Value} (h : VRs ι args args') (hs : args.size ≤ nt) : TR ι nt [] (ZaS 0 args.toList .nil) { tmps := args' ++ Array.replicate (nt - args'.size) undef, defers := [] } := by
 have key : ∀ (l : List Value) (i : Nat) (T : Tr Value) (t : Nat), (ZaS i l T).get t = if i ≤ t ∧ t < i + l.length then l[t - i]? else T.get t := by
  intro l
  induction l with
  | nil => intro i T t; simp only [ZaS]; rw [if_neg (by rintro ⟨h1, h2⟩; simp only [List.length_nil] at h2; omega)]
  | cons v l ih =>
   intro i T t
   simp only [ZaS]
   rw [ih, Tr.get_set]
   by_cases h1 : t = i
   ·subst h1
    rw [if_neg (by omega), Zc, if_pos (by simp)]
    simp
   ·rw [Za h1]
    by_cases h2 : i + 1 ≤ t ∧ t < i + 1 + l.length
    ·rw [if_pos h2, if_pos (by simp; omega)]
     have : t - i = (t - (i + 1)) + 1 := by omega
     rw [this, List.getElem?_cons_succ]
    ·rw [if_neg h2, if_neg (by simp; omega)]
 refine ⟨by simp [← h.1, hs], rfl, fun t => ?_⟩
 rw [key]
 by_cases ht : t < args.size
 ·have ht' : t < args'.size := by rw [← h.1]; exact ht
  rw [if_pos (by simp [ht])]
  have e1 : args.toList[t - 0]? = some args[t] := by simp [ht]
  rw [e1, Array.getD_eq_getD_getElem?, Array.getElem?_append_left ht', Array.getElem?_eq_getElem ht']
  exact h.2 t _ _ (Array.getElem?_eq_getElem ht) (Array.getElem?_eq_getElem ht')
 ·rw [if_neg (by simp; omega)]
  have ht' : args'.size ≤ t := by rw [← h.1]; omega
  rw [Array.getD_eq_getD_getElem?, Array.getElem?_append_right ht']
  have : (Array.replicate (nt - args'.size) undef)[t - args'.size]?.getD undef = undef := by
   rw [Array.getElem?_replicate]
   split <;> rfl
  rw [this]
  exact VR.undef'

theorem Zdh {c : Code} {Q Q' : Exit → Act → World → Prop} (hq : ∀ e a w, Q e a w → Q' e a w) : ∀ (n : Nat) (a : Act) (w : World), Code.rounds P c Q n a w → Code.rounds P c Q' n a w
 | 0, _, _, h => h
 | n + 1, a, w, h => by
  rw [rounds_succ] at h ⊢
  refine wp_mono h ?_
  intro e a1 w1 h1
  cases e with
  | normal => exact Zdh hq n a1 w1 h1
  | _ => exact hq _ _ _ h1
theorem Step.below {ι : Ren} {h : AH} {w w' : World} (e : Emb P ι h w) (hb : Below w.heap.size w w') : Step P ι h w ι h w' :=
 ⟨fun _ _ h => h, ⟨fun k c t hk => by
   obtain ⟨b, C, q1, q2, q3⟩ := e.obj k c t hk
   exact ⟨b, C, q1, (hb.block b.1 (e.lt k b q1)).trans q2, q3⟩, fun k O hk => by
   obtain ⟨b, q1, q2⟩ := e.ro k O hk
   exact ⟨b, q1, q2.on (hb.block b.1 (e.lt k b q1))⟩, e.inj, fun k b hk => Nat.lt_of_lt_of_le (e.lt k b hk) hb.size⟩,
  hb.os, hb.tape, hb.output, hb.size, fun b hlt _ => hb.block b hlt, fun k b h1 h2 => (by rw [h1] at h2; cases h2), fun _ h1 _ => h1, fun _ h1 _ => h1⟩
theorem ZM (F : Fit P ext) : ∀ fu : Nat,
  (∀ nt c T s e T' s', Zf P ext nt fu c T s = some (e, T', s') → (∀ p ∈ s'.ob, p.1 = p.2) → ∀ ι D a w, TR ι nt D T a → Emb P ι s.h.get w → Fresh ι s.n s'.n → c.wp P (ZY P ι s w nt D e T' s') a w) ∧
  (∀ nt ops l T s T' s', ZaE P ext nt fu ops l T s = some (T', s') → (∀ p ∈ s'.ob, p.1 = p.2) → ∀ ι D a w (Q : Exit → Act → World → Prop), TR ι nt D T a → Emb P ι s.h.get w → Fresh ι s.n s'.n →
   (∀ ι' a' w', Step P ι s.h.get w ι' s'.h.get w' → Dom ι ι' s.n s'.n → TR ι' nt D T' a' → Q .normal a' w') → wpList P ops Q l a w) ∧
  SOp P ext fu ∧
  (∀ f args s v s', ZA P ext fu f args s = some (v, s') → (∀ p ∈ s'.ob, p.1 = p.2) → ∀ ι w args', VRs ι args args' → Emb P ι s.h.get w → Fresh ι s.n s'.n → Calls P f args' w (ZcX P ι s w v s')) ∧
  (∀ nt c T s e T' s', Zf P ext nt fu (.loop c) T s = some (e, T', s') → (∀ p ∈ s'.ob, p.1 = p.2) → ∀ ι D a w, TR ι nt D T a → Emb P ι s.h.get w → Fresh ι s.n s'.n → Code.rounds P c (ZY P ι s w nt D e T' s') fu a w) := by
 intro fu
 induction fu using Nat.strongRecOn with
 | _ fu ihs =>
 cases fu with
 | zero => exact ⟨fun _ _ _ _ _ _ _ h => by simp [Zf] at h, fun _ _ _ _ _ _ _ h => by simp [ZaE, St.keep_eq] at h, fun _ _ _ _ _ _ h => by simp [Za4] at h, fun _ _ _ _ _ h => by simp [ZA] at h, fun _ _ _ _ _ _ _ h => by simp [Zf] at h⟩
 | succ fu =>
  obtain ⟨ihC, ihO, ihP, ihF, ihL⟩ := ihs fu (Nat.lt_succ_self _)
  obtain ⟨upC, upO, upP, upF, upD, upE⟩ := ZB (P := P) (ext := ext) (fun f g hg => (F.hp f g hg).up) fu
  have loops : ∀ nt c T s e T' s', Zf P ext nt (fu + 1) (.loop c) T s = some (e, T', s') → (∀ p ∈ s'.ob, p.1 = p.2) → ∀ ι D a w, TR ι nt D T a → Emb P ι s.h.get w → Fresh ι s.n s'.n → Code.rounds P c (ZY P ι s w nt D e T' s') (fu + 1) a w := by
   intro nt x T s e T' s' h ho ι D a w hT he hf
   simp only [Zf] at h
   rw [rounds_succ]
   split at h
   ·rename_i T1 s1 h1
    have u1 := upC _ _ _ _ _ _ _ h1
    have u2 := upC _ _ _ _ _ _ _ h
    refine wp_mono (ihC nt x T s .normal T1 s1 h1 (Zm u2.ob ho) ι D a w hT he (hf.mono (Nat.le_refl _) u2.n)) ?_
    rintro ex a1 w1 ⟨rfl, ι1, g1, g2, g3⟩
    refine Zdh ?_ fu a1 w1 (ihL nt x T1 s1 e T' s' h ho ι1 D a1 w1 g3 g1.emb (hf.after g2 u1.n))
    rintro ex2 a2 w2 ⟨rfl, ι2, k1, k2, k3⟩
    exact ⟨rfl, ι2, g1.trans k1, g2.trans k2 u1.n u2.n, k3⟩
   ·rename_i i T1 s1 h1
    injection h with h; simp only [Prod.mk.injEq] at h; obtain ⟨rfl, rfl, rfl⟩ := h
    refine wp_mono (ihC nt x T s _ _ _ h1 ho ι D a w hT he hf) ?_
    rintro ex a1 w1 ⟨rfl, hq⟩
    exact ⟨rfl, hq⟩
   ·rename_i T1 s1 h1
    injection h with h; simp only [Prod.mk.injEq] at h; obtain ⟨rfl, rfl, rfl⟩ := h
    refine wp_mono (ihC nt x T s _ _ _ h1 ho ι D a w hT he hf) ?_
    rintro ex a1 w1 ⟨rfl, hq⟩
    exact ⟨rfl, hq⟩
   ·cases h
  refine ⟨fun nt c T s e T' s' h ho ι D a w hT he hf => ?_, fun nt ops l T s T' s' h ho ι D a w Q hT he hf hQ => ?_, fun ρ ρ' o s v s' h ho ι w hρ he hf a K Q hex hK => ?_, fun f args s v s' h ho ι w args' ha he hf => ?_, loops⟩
  ·have base : ZY P ι s w nt D .normal T s .normal a w ∧ ZY P ι s w nt D .ret T s .ret a w ∧ ∀ i, ZY P ι s w nt D (.exit i) T s (.exit i) a w :=
    ⟨⟨rfl, ι, Step.refl he, Dom.refl, hT⟩, ⟨rfl, ι, Step.refl he, Dom.refl, hT⟩, fun i => ⟨rfl, ι, Step.refl he, Dom.refl, hT⟩⟩
   -- one part, then the other
   have chain : ∀ {s1 : St} {T1 : Tr Value} {c2 : Code} {a1 : Act} {w1 : World} {ι1 : Ren}, Up s s1 → Up s1 s' → Step P ι s.h.get w ι1 s1.h.get w1 → Dom ι ι1 s.n s1.n → TR ι1 nt D T1 a1 → Zf P ext nt fu c2 T1 s1 = some (e, T', s') →
     c2.wp P (ZY P ι s w nt D e T' s') a1 w1 := fun {s1 T1 c2 a1 w1 ι1} u1 u2 h1 h2 h3 h4 => by
    refine wp_mono (ihC nt c2 T1 s1 e T' s' h4 ho ι1 D a1 w1 h3 h1.emb ((hf.mono (Nat.le_refl _) (Nat.le_refl _)).after h2 u1.n)) ?_
    rintro ex a2 w2 ⟨rfl, ι2, g1, g2, g3⟩
    exact ⟨rfl, ι2, (Step.two ⟨h1, h2⟩ ⟨g1, g2⟩ u1.n u2.n).1, (Step.two ⟨h1, h2⟩ ⟨g1, g2⟩ u1.n u2.n).2, g3⟩
   have h0 := h
   cases c <;> simp only [Zf] at h
   case skip => injection h with h; simp only [Prod.mk.injEq] at h; obtain ⟨rfl, rfl, rfl⟩ := h; exact wp_skip base.1
   case label l => injection h with h; simp only [Prod.mk.injEq] at h; obtain ⟨rfl, rfl, rfl⟩ := h; exact wp_label base.1
   case scope c =>
    refine wp_scope_straight (wp_mono (ihC nt c T s e T' s' h ho ι D a w hT he hf) ?_)
    rintro ex a1 w1 ⟨rfl, hq⟩
    cases e <;> exact ⟨rfl, hq⟩
   case ret => injection h with h; simp only [Prod.mk.injEq] at h; obtain ⟨rfl, rfl, rfl⟩ := h; exact wp_ret base.2.1
   case exit id => injection h with h; simp only [Prod.mk.injEq] at h; obtain ⟨rfl, rfl, rfl⟩ := h; exact wp_exit (base.2.2 id)
   case seq x y =>
    split at h
    ·rename_i T1 s1 h1
     have u1 := upC _ _ _ _ _ _ _ h1
     have u2 := upC _ _ _ _ _ _ _ h
     refine wp_seq (wp_mono (ihC nt x T s .normal T1 s1 h1 (Zm u2.ob ho) ι D a w hT he (hf.mono (Nat.le_refl _) u2.n)) ?_)
     rintro ex a1 w1 ⟨rfl, ι1, g1, g2, g3⟩
     exact chain u1 u2 g1 g2 g3 h
    ·rename_i i T1 s1 h1
     injection h with h; simp only [Prod.mk.injEq] at h; obtain ⟨rfl, rfl, rfl⟩ := h
     refine wp_seq (wp_mono (ihC nt x T s _ _ _ h1 ho ι D a w hT he hf) ?_)
     rintro ex a1 w1 ⟨rfl, hq⟩
     exact ⟨rfl, hq⟩
    ·rename_i T1 s1 h1
     injection h with h; simp only [Prod.mk.injEq] at h; obtain ⟨rfl, rfl, rfl⟩ := h
     refine wp_seq (wp_mono (ihC nt x T s _ _ _ h1 ho ι D a w hT he hf) ?_)
     rintro ex a1 w1 ⟨rfl, hq⟩
     exact ⟨rfl, hq⟩
    ·cases h
   case cond x y z =>
    split at h
    ·rename_i t ht
     have hx : a.eval x = .bool t := Zar ((ht ▸ hT.opnd x : VR ι (.bool t) (Zv a x)).bool_inv)
     split at h
     ·exact wp_cond_true hx (ihC nt y T s e T' s' h ho ι D a w hT he hf)
     ·exact wp_cond_false hx (ihC nt z T s e T' s' h ho ι D a w hT he hf)
    ·cases h
   case block id x =>
    split at h
    ·rename_i i T1 s1 h1
     cases hb : Nat.beq i id with
     | true =>
      rw [hb] at h
      injection h with h; simp only [Prod.mk.injEq] at h; obtain ⟨rfl, rfl, rfl⟩ := h
      refine wp_block (wp_mono (ihC nt x T s _ _ _ h1 ho ι D a w hT he hf) ?_)
      rintro ex a1 w1 ⟨rfl, hq⟩
      show if i = id then _ else _
      rw [if_pos (Nat.eq_of_beq_eq_true hb)]
      exact ⟨rfl, hq⟩
     | false =>
      rw [hb] at h
      injection h with h; simp only [Prod.mk.injEq] at h; obtain ⟨rfl, rfl, rfl⟩ := h
      refine wp_block (wp_mono (ihC nt x T s _ _ _ h1 ho ι D a w hT he hf) ?_)
      rintro ex a1 w1 ⟨rfl, hq⟩
      show if i = id then _ else _
      rw [if_neg (fun e => by rw [ZbC e] at hb; cases hb)]
      exact ⟨rfl, hq⟩
    ·rename_i T1 s1 h1
     injection h with h; simp only [Prod.mk.injEq] at h; obtain ⟨rfl, rfl, rfl⟩ := h
     refine wp_block (wp_mono (ihC nt x T s _ _ _ h1 ho ι D a w hT he hf) ?_)
     rintro ex a1 w1 ⟨rfl, hq⟩
     exact ⟨rfl, hq⟩
    ·rename_i T1 s1 h1
     injection h with h; simp only [Prod.mk.injEq] at h; obtain ⟨rfl, rfl, rfl⟩ := h
     refine wp_block (wp_mono (ihC nt x T s _ _ _ h1 ho ι D a w hT he hf) ?_)
     rintro ex a1 w1 ⟨rfl, hq⟩
     exact ⟨rfl, hq⟩
    ·cases h
   case loop x =>
    exact wp_loop_rounds (fu + 1) (loops nt x T s e T' s' h0 ho ι D a w hT he hf)
   case region id ops draw =>
    cases draw with
    | true =>
     simp only [cond_true] at h
     split at h
     ·rename_i es T1 s1 h1
      injection h with h; simp only [Prod.mk.injEq] at h; obtain ⟨rfl, rfl, rfl⟩ := h
      exact ZfY F (fun fu' hfu => (ihs fu' (by omega)).2.2.1) h1 ho hT he hf fun ι' a' w' g1 g2 g3 => ⟨rfl, ι', g1, g2, g3⟩
     ·cases h
    | false =>
    simp only [cond_false] at h
    split at h
    ·rename_i T1 s1 h1
     injection h with h; simp only [Prod.mk.injEq] at h; obtain ⟨rfl, rfl, rfl⟩ := h
     refine wp_region_list (ihO nt ops ops.toList T s T1 s1 h1 ho ι D a w _ hT he hf fun ι' a' w' g1 g2 g3 => ⟨rfl, ι', g1, g2, g3⟩)
    ·cases h
   all_goals cases h
  ·cases l with
   | nil =>
    simp only [ZaE, St.keep_eq] at h
    injection h with h; simp only [Prod.mk.injEq] at h; obtain ⟨rfl, rfl⟩ := h
    exact hQ ι a w (Step.refl he) Dom.refl hT
   | cons o l =>
    simp only [ZaE, St.keep_eq] at h
    obtain ⟨hg, h⟩ := Zb h
    simp only [Bool.and_eq_true] at hg
    unfold wpList
    split at h
    ·rename_i s1 hw
     split at h
     ·rename_i v s2 hv
      have u1 := Zz hw
      have u2 := upP _ _ _ _ _ hv
      have u3 := upO _ _ _ _ _ _ _ h
      obtain ⟨hwant, e2, e3⟩ := ZU (fun t _ => hT.2.2 t) hw
      rw [if_pos hwant]
      refine .inl (ihP (opnd T) (Zv a) o s1 v s2 hv (Zm u3.ob ho) ι w hT.opnd (e2 ▸ he) (e3 ▸ (hf.mono (Nat.le_refl _) u3.n)) a _ Q (Zbd (Zcv hv) hg.2).symm fun v' w' ι' g1 g2 g3 => ?_)
      rw [e2] at g1
      rw [e3] at g2
      have hle : s.n ≤ s2.n := by rw [← e3]; exact u2.n
      exact ihO nt ops l (ZQ T o.dst v) s2 T' s' h ho ι' D _ w' Q ((hT.on g1.ext).put hg.1 g3) g1.emb (hf.after g2 hle) fun ι2 a2 w2 k1 k2 k3 =>
       hQ ι2 a2 w2 (g1.trans k1) (g2.trans k2 hle u3.n) k3
     ·cases h
    ·rename_i s1 hw
     have u1 := Zz hw
     have u3 := upO _ _ _ _ _ _ _ h
     obtain ⟨hwant, e2, e3⟩ := ZU (fun t _ => hT.2.2 t) hw
     rw [if_neg (by rw [hwant]; simp)]
     refine ihO nt ops l (ZQ T o.dst undef) s1 T' s' h ho ι D _ w Q (hT.put hg.1 VR.undef') (e2 ▸ he) (e3 ▸ hf) fun ι2 a2 w2 k1 k2 k3 => hQ ι2 a2 w2 (e2 ▸ k1) (e3 ▸ k2) k3
    ·cases h
  ·simp only [Za4] at h
   split at h
   ·rename_i c hc
    obtain ⟨hop, _⟩ := Zfv hc
    split at h
    ·rename_i f args hcal
     obtain ⟨args', hrun, hargs⟩ := Zen (P := P) hρ hop hcal w
     rw [← hex] at hrun
     split at h
     ·rename_i kk e hx
      split at h
      ·rename_i z c1 s1 hw
       obtain ⟨e1, e2, _⟩ := Zh hw
       obtain ⟨s2, s3, h4, e3, e4, e5, e6, ho3⟩ := ZfX ho h rfl
       exact ZbL (((hrun ▸ ZcK F hx hargs (s := s2) (by rw [e3, e1]; exact he) ho3 h4).heap (e3.trans e1).symm (e4.trans e2).symm).behind e5 e6) hK
      ·cases h
      ·rename_i s1 hw
       obtain ⟨e1, e2, _⟩ := Zh hw
       exact ZbL ((hrun ▸ ZcK F hx hargs (s := s1) (e1 ▸ he) ho h).heap e1.symm e2.symm) hK
     ·rename_i n hx
      exact ZbL (hrun ▸ ZfW F hx hargs he h) hK
     ·rename_i g hx
      have hd := F.hp f g hx
      obtain ⟨fn, c', hfn, hb⟩ := hd.body
      unfold Oper.wp
      rw [hrun, ZE hfn (F.go f fn hfn) hb, Oper.upon_enter]
      refine (hd.does args s v s' h ho ι w args' hargs he hf).mono ?_
      rintro e2 w2 ⟨v', ι', rfl, g1, g2, g3⟩
      exact hK v' w2 ι' g1 g2 g3
     ·rename_i S hx
      split at h
      ·rename_i pre u post dn s1 hw
       obtain ⟨e1, e2, _⟩ := Zh hw
       obtain ⟨⟨fn, c', hfn, hb⟩, hS⟩ := F.tc f S hx
       unfold Oper.wp
       rw [hrun, ZE hfn (F.go f fn hfn) hb, Oper.upon_enter]
       refine (ZfV hS h ho hargs (e1 ▸ he) (e2 ▸ hf)).mono ?_
       rintro e2' w2 ⟨v', ι', rfl, g1, g2, g3⟩
       exact hK v' w2 ι' (e1 ▸ g1) (e2 ▸ g2) g3
      ·cases h
     ·rename_i g hx
      unfold ZfD at h
      obtain ⟨hfree, h⟩ := Zb h
      split at h
      ·rename_i v1 hg
       obtain ⟨hfv, h⟩ := Zb h
       injection h with h; injection h with q1 q2; subst q1 q2
       have hae : args' = args := Zdj hargs.1 fun i x y hx1 hy1 => (hargs.2 i x y hx1 hy1).eq_of_free (Zq hfree i x hx1)
       subst hae
       obtain ⟨⟨fn, c', hfn, hb⟩, hcall⟩ := F.fn f g hx
       unfold Oper.wp
       rw [hrun, ZE hfn (F.go f fn hfn) hb, Oper.upon_enter]
       refine (hcall args' v1 hfree hg w).mono ?_
       rintro e2 w2 ⟨rfl, hbel⟩
       exact hK v1 w2 ι (Step.below he hbel) Dom.refl (VR.of_free hfv)
      ·cases h
     ·have hcalls := ihF f args s v s' h ho ι w args' hargs he hf
      cases fu with
      | zero => simp [ZA] at h
      | succ fu' =>
       have h' := h
       simp only [ZA] at h'
       split at h'
       ·rename_i fn hfn
        split at h'
        ·rename_i c' hb
         unfold Oper.wp
         rw [hrun, ZE hfn (F.go f fn hfn) hb, Oper.upon_enter]
         refine hcalls.mono ?_
         rintro e2 w2 ⟨v', ι', rfl, g1, g2, g3⟩
         exact hK v' w2 ι' g1 g2 g3
        ·cases h'
       ·cases h'
    ·cases h
   ·split at h
    ·rename_i v1 s1 h1
     injection h with h
     obtain ⟨e1, e2, e3⟩ := Zhf h ho
     subst e1
     rw [e2, e3] at hK
     rw [e3] at hf
     have := Zgy hρ he hf (Zm (Zf3 h).ob ho) h1
     rw [← hex] at this
     exact ZbL this hK
    ·cases h
  ·simp only [ZA] at h
   split at h
   ·rename_i fn hfn
    split at h
    ·rename_i c hb
     obtain ⟨hsz, h⟩ := Zb h
     have hle : args.size ≤ fn.ntmps := Nat.le_of_ble_eq_true hsz
     split at h
     ·cases h
     ·rename_i ex T1 s1 hne h1
      have hs : s' = s1 ∧ (match Zp P T1 s1 fn.results.toList with | some [v] => some v | some vs => some (.tuple vs.toArray) | none => none) = some v := by
       split at h
       ·rename_i hr; injection h with h; injection h with q1 q2; subst q1 q2; exact ⟨rfl, by first | rw [hr] | rfl⟩
       ·rename_i vs hn hr; injection h with h; injection h with q1 q2; subst q1 q2
        refine ⟨rfl, ?_⟩
        try rw [hr]
        rcases vs with _ | ⟨x, _ | ⟨y, vs⟩⟩
        ·rfl
        ·exact absurd rfl (hn x)
        ·rfl
       ·cases h
      obtain ⟨rfl, hres⟩ := hs
      refine calls_of_wp hfn hb (wp_mono (ihC fn.ntmps c _ s ex T1 s' h1 ho ι [] _ w (Zch ha hle) he hf) ?_)
      rintro e2 a2 w2 ⟨rfl, ι2, g1, g2, g3⟩
      obtain ⟨v', hrun, hv⟩ := ZR g3 g1.emb hres
      cases ex with
      | normal => exact ⟨g3.2.1, v', hrun, v', ι2, rfl, g1, g2, hv⟩
      | ret => exact ⟨g3.2.1, v', hrun, v', ι2, rfl, g1, g2, hv⟩
      | exit i => exact (hne i rfl).elim
     ·cases h
    ·cases h
   ·cases h

theorem Zas {ι : Ren} : VRs ι ([] : List Value).toArray ([] : List Value).toArray := ⟨rfl, fun i x y hx => by simp at hx⟩
theorem Zd {ι : Ren} {x y : Value} {l l' : List Value} (h : VR ι x y) (t : VRs ι l.toArray l'.toArray) : VRs ι (x :: l).toArray (y :: l').toArray := by
 refine ⟨by simpa using t.1, fun i u v hu hv => ?_⟩
 cases i with
 | zero => simp at hu hv; subst hu hv; exact h
 | succ i => exact t.2 i u v (by simpa using hu) (by simpa using hv)
theorem VR.aggl {ι : Ren} {a a' : Array Value} (h : VRs ι a a') : VR ι (.agg a) (.agg a') := .agg h.1 h.2
theorem Zhx (F : Fit P ext) {fu : Nat} {f : FuncId} {args args' : Array Value} {v : Value} {s' : St} {orc : Orc} (h : ZA P ext fu f args ⟨.nil, 0, [], orc, []⟩ = some (v, s')) (ho : ∀ p ∈ s'.ob, p.1 = p.2) (ha : VRs (fun _ => none) args args') (hv : ZF v = true) (hn : s'.n ≤ far) (w : World) :
  Calls P f args' w fun e w' => e = .returned v ∧ Below w.heap.size w w' := by
 have hF := (ZM (P := P) F fu).2.2.2.1 f args _ v s' h ho (fun _ => none) w args' ha
  ⟨fun k c t hk => by simp [Tr.get_nil] at hk, fun k O hk => by simp [Tr.get_nil] at hk, fun k k' b b' hk => by simp [Tr.get_nil, isC] at hk, fun k b hk => by cases hk⟩ ⟨hn, fun _ _ _ => rfl⟩
 refine hF.mono ?_
 rintro e w' ⟨v', ι', rfl, g1, g2, g3⟩
 have := g3.eq_of_free hv
 subst this
 exact ⟨rfl, g1.os, g1.tape, g1.output, g1.size, fun k hk => g1.frame k hk fun j c hj => by simp [Tr.get_nil, isC] at hj⟩
theorem VRs.of_free {ι : Ren} {args : Array Value} (ha : Ze ZF args.toList = true) : VRs ι args args := ⟨rfl, fun i x y hx hy => by rw [hx] at hy; injection hy with hy; subst hy; exact VR.of_free (Zq ha i x hx)⟩
end
end Ev
end Go.Proofs.YtldlnclkdgfahaaGreat
/- Functions with deferred calls. -/
namespace Go.Proofs.YtldlnclkdgfahaaGreat
open Go.RowKit
namespace Ev
noncomputable section
def Zf6 (o : Oper) : Option Call :=
 match o.op with
 | .defer c => some c
 | _ => none
def Zay (P : Program) (ext : FuncId → Option Ext) (nt fu : Nat) (ops : Array Oper) : List Oper → Tr Value → St → List (FuncId × Array Value) → Option (Tr Value × St × List (FuncId × Array Value))
 | [], T, s, ds => some (T, s, ds)
 | o :: l, T, s, ds =>
  bif Za1 nt o.dst && Ze Zau o.op.operands.toList then
   match Zac ops T o s with
   | some (true, s1) => match Zf6 o with
    | some c => match callee (opnd T) c with
     | some (f, args) => Zay P ext nt fu ops l (ZQ T o.dst undef) s1 ((f, args) :: ds)
     | none => none
    | none => match Za4 P ext fu (opnd T) o s1 with
     | some (v, s') => Zay P ext nt fu ops l (ZQ T o.dst v) s' ds
     | none => none
   | some (false, s1) => Zay P ext nt fu ops l (ZQ T o.dst undef) s1 ds
   | none => none
  else none
def evD (P : Program) (ext : FuncId → Option Ext) (nt : Nat) : Nat → Code → Tr Value → St → List (FuncId × Array Value) → Option (Bool × Tr Value × St × List (FuncId × Array Value))
 | 0, _, _, _, _ => none
 | fu + 1, c, T, s, ds => match c with
  | .seq a b => match evD P ext nt fu a T s ds with
   | some (false, T', s', ds') => evD P ext nt fu b T' s' ds'
   | some (true, T', s', ds') => some (true, T', s', ds')
   | none => none
  | .cond x a b => match opnd T x with
   | .bool t => match t with
    | true => evD P ext nt fu a T s ds
    | false => evD P ext nt fu b T s ds
   | _ => none
  | .region _ ops draw => match draw with
   | true => none
   | false => match Zay P ext nt fu ops ops.toList T s ds with
    | some (T', s', ds') => some (false, T', s', ds')
    | none => none
  | .skip => some (false, T, s, ds)
  | .ret => some (true, T, s, ds)
  | _ => none
def Za9 (P : Program) (ext : FuncId → Option Ext) (fu : Nat) : List (FuncId × Array Value) → St → Option St
 | [], s => some s
 | d :: ds, s => match ZA P ext fu d.1 d.2 s with
  | some (_, s') => Za9 P ext fu ds s'
  | none => none
def ZcZ (P : Program) (ext : FuncId → Option Ext) (fu : Nat) (f : FuncId) (args : Array Value) (s : St) : Out :=
 match P.funcs[f]? with
 | some fn => match fn.body with
  | some c => bif Nat.ble args.size fn.ntmps then match evD P ext fn.ntmps fu c (ZaS 0 args.toList .nil) s [] with
   | some (_, T, s', ds) => match Za9 P ext fu ds s' with
    | some s2 => match Zp P T s2 fn.results.toList with
     | some [v] => some (v, s2)
     | some vs => some (.tuple vs.toArray, s2)
     | none => none
    | none => none
   | none => none
   else none
  | none => none
 | none => none
end
section
variable {P : Program} {ext : FuncId → Option Ext}
def DR (ι : Ren) : List (FuncId × Array Value) → List Deferred → Prop
 | [], [] => True
 | d :: ds, x :: D => (∃ b, x.target = .fn (.func d.1) b ∧ VRs ι d.2 (x.args ++ b)) ∧ DR ι ds D
 | _, _ => False
theorem DR.on {ι ι' : Ren} (hi : ∀ k b, ι k = some b → ι' k = some b) : ∀ {ds : List (FuncId × Array Value)} {D : List Deferred}, DR ι ds D → DR ι' ds D
 | [], [], _ => trivial
 | [], _ :: _, h => h.elim
 | _ :: _, [], h => h.elim
 | _ :: _, _ :: _, h => ⟨let ⟨b, h1, h2⟩ := h.1; ⟨b, h1, h2.ext hi⟩, DR.on hi h.2⟩
theorem Zfw {ι : Ren} {ρ ρ' : Operand → Value} {o : Oper} {c : Call} {f : FuncId} {args : Array Value} (hρ : ∀ x, VR ι (ρ x) (ρ' x)) (ho : o.op = .defer c) (h : callee ρ c = some (f, args)) (w : World) :
  ∃ d b, (execOp ρ' o).run P w = .ok (.defer d) w ∧ d.target = .fn (.func f) b ∧ VRs ι args (d.args ++ b) := by
 unfold callee at h
 split at h
 ·rename_i x hx
  split at h
  ·rename_i g a b hg
   injection h with h; injection h with h1 h2; subst h1 h2
   have hv := hg ▸ hρ x
   have : ∃ a' b', ρ' x = .func (.func g) a' b' ∧ VRs ι a a' ∧ VRs ι b b' := by
    generalize ρ' x = x' at hv
    cases hv with
    | atom h =>
     simp [Ev.atom] at h
     obtain ⟨rfl, rfl⟩ := h
     exact ⟨_, _, rfl, ⟨rfl, fun i x y hx => by simp at hx⟩, ⟨rfl, fun i x y hx => by simp at hx⟩⟩
    | func hs ht h1 h2 => exact ⟨_, _, rfl, ⟨hs, h1⟩, ⟨ht, h2⟩⟩
   obtain ⟨a', b', hx', ha, hb⟩ := this
   refine ⟨{ target := .fn (.func g) b', args := a' ++ c.args.map ρ' }, b', ?_, rfl, ZZ (ZZ ha (Zbu hρ c.args)) hb⟩
   simp [execOp, ho, resolve, hx, hx', Deferred.ofValue, Result.andThen, Sem.run]
  ·cases h
 ·cases h
theorem Zci (F : Fit P ext) {nt fu : Nat} {ops : Array Oper} : ∀ (l : List Oper) (T : Tr Value) (s : St) (ds : List (FuncId × Array Value)) (T' : Tr Value) (s' : St) (ds' : List (FuncId × Array Value)), Zay P ext nt fu ops l T s ds = some (T', s', ds') → Up s s'
 | [], T, s, ds, T', s', ds', h => by simp only [Zay] at h; injection h with h; simp only [Prod.mk.injEq] at h; obtain ⟨_, rfl, _⟩ := h; exact Up.refl _
 | o :: l, T, s, ds, T', s', ds', h => by
  simp only [Zay] at h
  replace h := (Zb h).2
  have uP := (ZB (P := P) (ext := ext) (fun f g hg => (F.hp f g hg).up) fu).2.2.1
  split at h
  ·split at h
   ·split at h
    ·exact (Zz (by assumption)).trans (Zci F l _ _ _ _ _ _ h)
    ·cases h
   ·split at h
    ·exact (Zz (by assumption)).trans ((uP _ _ _ _ _ (by assumption)).trans (Zci F l _ _ _ _ _ _ h))
    ·cases h
  ·exact (Zz (by assumption)).trans (Zci F l _ _ _ _ _ _ h)
  ·cases h
theorem Zcw (F : Fit P ext) {nt : Nat} : ∀ (fu : Nat) (c : Code) (T : Tr Value) (s : St) (ds : List (FuncId × Array Value)) (r : Bool) (T' : Tr Value) (s' : St) (ds' : List (FuncId × Array Value)), evD P ext nt fu c T s ds = some (r, T', s', ds') → Up s s'
 | 0, _, _, _, _, _, _, _, _, h => by simp [evD] at h
 | fu + 1, c, T, s, ds, r, T', s', ds', h => by
  cases c <;> simp only [evD] at h
  case seq a b =>
   split at h
   ·exact (Zcw F fu _ _ _ _ _ _ _ _ (by assumption)).trans (Zcw F fu _ _ _ _ _ _ _ _ h)
   ·injection h with h; simp only [Prod.mk.injEq] at h; obtain ⟨_, _, rfl, _⟩ := h; exact Zcw F fu _ _ _ _ _ _ _ _ (by assumption)
   ·cases h
  case cond x a b =>
   split at h
   ·split at h
    ·exact Zcw F fu _ _ _ _ _ _ _ _ h
    ·exact Zcw F fu _ _ _ _ _ _ _ _ h
   ·cases h
  case region id ops draw =>
   split at h
   ·cases h
   ·split at h
    ·injection h with h; simp only [Prod.mk.injEq] at h; obtain ⟨_, _, rfl, _⟩ := h; exact Zci F _ _ _ _ _ _ _ (by assumption)
    ·cases h
  case skip => injection h with h; simp only [Prod.mk.injEq] at h; obtain ⟨_, _, rfl, _⟩ := h; exact Up.refl _
  case ret => injection h with h; simp only [Prod.mk.injEq] at h; obtain ⟨_, _, rfl, _⟩ := h; exact Up.refl _
  all_goals cases h
theorem Zcx (F : Fit P ext) {fu : Nat} : ∀ (ds : List (FuncId × Array Value)) (s s' : St), Za9 P ext fu ds s = some s' → Up s s'
 | [], s, s', h => by simp only [Za9] at h; injection h with h; subst h; exact Up.refl _
 | d :: ds, s, s', h => by
  simp only [Za9] at h
  split at h
  ·exact ((ZB (P := P) (ext := ext) (fun f g hg => (F.hp f g hg).up) fu).2.2.2.1 _ _ _ _ _ (by assumption)).trans (Zcx F ds _ _ h)
  ·cases h
theorem Zbo (F : Fit P ext) {nt fu : Nat} {ops : Array Oper} : ∀ (l : List Oper) (T : Tr Value) (s : St) (ds : List (FuncId × Array Value)) (T' : Tr Value) (s' : St) (ds' : List (FuncId × Array Value)), Zay P ext nt fu ops l T s ds = some (T', s', ds') → (∀ p ∈ s'.ob, p.1 = p.2) →
  ∀ ι D a w (Q : Exit → Act → World → Prop), TR ι nt D T a → DR ι ds D → Emb P ι s.h.get w → Fresh ι s.n s'.n →
   (∀ ι' D' a' w', Step P ι s.h.get w ι' s'.h.get w' → Dom ι ι' s.n s'.n → TR ι' nt D' T' a' → DR ι' ds' D' → Q .normal a' w') → wpList P ops Q l a w
 | [], T, s, ds, T', s', ds', h, ho, ι, D, a, w, Q, hT, hD, he, hf, hQ => by
  simp only [Zay] at h
  injection h with h; simp only [Prod.mk.injEq] at h; obtain ⟨rfl, rfl, rfl⟩ := h
  exact hQ ι D a w (Step.refl he) Dom.refl hT hD
 | o :: l, T, s, ds, T', s', ds', h, ho, ι, D, a, w, Q, hT, hD, he, hf, hQ => by
  simp only [Zay] at h
  obtain ⟨hg, h⟩ := Zb h
  simp only [Bool.and_eq_true] at hg
  unfold wpList
  split at h
  ·rename_i s1 hw
   have u1 := Zz hw
   obtain ⟨hwant, e2, e3⟩ := ZU (fun t _ => hT.2.2 t) hw
   rw [if_pos hwant]
   split at h
   ·rename_i c hc
    have hop : o.op = .defer c := by
     unfold Zf6 at hc
     split at hc
     ·rename_i c' h'; injection hc with hc; subst hc; exact h'
     ·cases hc
    split at h
    ·rename_i f args hcal
     obtain ⟨d, b, hrun, h1, h2⟩ := Zfw (P := P) hT.opnd hop hcal w
     rw [Zbd (fun cs b e => by rw [hop] at e; cases e) hg.2] at hrun
     refine .inl ?_
     unfold Oper.wp
     rw [hrun, Oper.upon_defer]
     refine Zbo F l _ s1 _ T' s' ds' h ho ι (d :: D) _ w Q ?_ ⟨⟨b, h1, h2⟩, hD⟩ (e2 ▸ he) (e3 ▸ hf) fun ι2 D2 a2 w2 k1 k2 k3 k4 => hQ ι2 D2 a2 w2 (e2 ▸ k1) (e3 ▸ k2) k3 k4
     exact TR.put (a := { a with defers := d :: a.defers }) ⟨hT.1, by rw [hT.2.1], hT.2.2⟩ hg.1 VR.undef'
    ·cases h
   ·split at h
    ·rename_i v s2 hv
     have ua := ZB (P := P) (ext := ext) (fun f g hg => (F.hp f g hg).up) fu
     have u2 := ua.2.2.1 _ _ _ _ _ hv
     have u3 := Zci F _ _ _ _ _ _ _ h
     refine .inl ((ZM F fu).2.2.1 (opnd T) (Zv a) o s1 v s2 hv (Zm u3.ob ho) ι w hT.opnd (e2 ▸ he) (e3 ▸ (hf.mono (Nat.le_refl _) u3.n)) a _ Q (Zbd (Zcv hv) hg.2).symm fun v' w' ι' g1 g2 g3 => ?_)
     rw [e2] at g1
     rw [e3] at g2
     have hle : s.n ≤ s2.n := by rw [← e3]; exact u2.n
     exact Zbo F l (ZQ T o.dst v) s2 ds T' s' ds' h ho ι' D _ w' Q ((hT.on g1.ext).put hg.1 g3) (hD.on g1.ext) g1.emb (hf.after g2 hle) fun ι2 D2 a2 w2 k1 k2 k3 k4 =>
      hQ ι2 D2 a2 w2 (g1.trans k1) (g2.trans k2 hle u3.n) k3 k4
    ·cases h
  ·rename_i s1 hw
   have u1 := Zz hw
   obtain ⟨hwant, e2, e3⟩ := ZU (fun t _ => hT.2.2 t) hw
   rw [if_neg (by rw [hwant]; simp)]
   exact Zbo F l (ZQ T o.dst undef) s1 ds T' s' ds' h ho ι D _ w Q (hT.put hg.1 VR.undef') hD (e2 ▸ he) (e3 ▸ hf) fun ι2 D2 a2 w2 k1 k2 k3 k4 => hQ ι2 D2 a2 w2 (e2 ▸ k1) (e3 ▸ k2) k3 k4
  ·cases h
def PostD (P : Program) (ι : Ren) (s : St) (w : World) (nt : Nat) (r : Bool) (T' : Tr Value) (s' : St) (ds' : List (FuncId × Array Value)) (ex : Exit) (a' : Act) (w' : World) : Prop :=
 ex = (match r with | true => .ret | false => .normal) ∧ ∃ ι' D', Step P ι s.h.get w ι' s'.h.get w' ∧ Dom ι ι' s.n s'.n ∧ TR ι' nt D' T' a' ∧ DR ι' ds' D'
theorem Zbv (F : Fit P ext) {nt : Nat} : ∀ (fu : Nat) (c : Code) (T : Tr Value) (s : St) (ds : List (FuncId × Array Value)) (r : Bool) (T' : Tr Value) (s' : St) (ds' : List (FuncId × Array Value)), evD P ext nt fu c T s ds = some (r, T', s', ds') → (∀ p ∈ s'.ob, p.1 = p.2) →
  ∀ ι D a w, TR ι nt D T a → DR ι ds D → Emb P ι s.h.get w → Fresh ι s.n s'.n → c.wp P (PostD P ι s w nt r T' s' ds') a w
 | 0, _, _, _, _, _, _, _, _, h => by simp [evD] at h
 | fu + 1, c, T, s, ds, r, T', s', ds', h => by
  intro ho ι D a w hT hD he hf
  cases c <;> simp only [evD] at h
  case seq x y =>
   split at h
   ·rename_i T1 s1 ds1 h1
    have u1 := Zcw F fu _ _ _ _ _ _ _ _ h1
    have u2 := Zcw F fu _ _ _ _ _ _ _ _ h
    refine wp_seq (wp_mono (Zbv F fu x T s ds _ T1 s1 ds1 h1 (Zm u2.ob ho) ι D a w hT hD he (hf.mono (Nat.le_refl _) u2.n)) ?_)
    rintro ex a1 w1 ⟨rfl, ι1, D1, g1, g2, g3, g4⟩
    refine wp_mono (Zbv F fu y T1 s1 ds1 r T' s' ds' h ho ι1 D1 a1 w1 g3 g4 g1.emb (hf.after g2 u1.n)) ?_
    rintro ex a2 w2 ⟨rfl, ι2, D2, k1, k2, k3, k4⟩
    exact ⟨rfl, ι2, D2, g1.trans k1, g2.trans k2 u1.n u2.n, k3, k4⟩
   ·rename_i T1 s1 ds1 h1
    injection h with h; simp only [Prod.mk.injEq] at h; obtain ⟨rfl, rfl, rfl, rfl⟩ := h
    refine wp_seq (wp_mono (Zbv F fu x T s ds _ _ _ _ h1 ho ι D a w hT hD he hf) ?_)
    rintro ex a1 w1 ⟨rfl, hq⟩
    exact ⟨rfl, hq⟩
   ·cases h
  case cond x y z =>
   split at h
   ·rename_i t ht
    have hx : a.eval x = .bool t := Zar ((ht ▸ hT.opnd x : VR ι (.bool t) (Zv a x)).bool_inv)
    split at h
    ·exact wp_cond_true hx (Zbv F fu y T s ds r T' s' ds' h ho ι D a w hT hD he hf)
    ·exact wp_cond_false hx (Zbv F fu z T s ds r T' s' ds' h ho ι D a w hT hD he hf)
   ·cases h
  case region id ops draw =>
   split at h
   ·cases h
   ·split at h
    ·rename_i T1 s1 ds1 h1
     injection h with h; simp only [Prod.mk.injEq] at h; obtain ⟨rfl, rfl, rfl, rfl⟩ := h
     exact wp_region_list (Zbo F ops.toList T s ds T1 s1 ds1 h1 ho ι D a w _ hT hD he hf fun ι' D' a' w' g1 g2 g3 g4 => ⟨rfl, ι', D', g1, g2, g3, g4⟩)
    ·cases h
  case skip => injection h with h; simp only [Prod.mk.injEq] at h; obtain ⟨rfl, rfl, rfl, rfl⟩ := h; exact wp_skip ⟨rfl, ι, D, Step.refl he, Dom.refl, hT, hD⟩
  case ret => injection h with h; simp only [Prod.mk.injEq] at h; obtain ⟨rfl, rfl, rfl, rfl⟩ := h; exact wp_ret ⟨rfl, ι, D, Step.refl he, Dom.refl, hT, hD⟩
  all_goals cases h
theorem Zhm (F : Fit P ext) {fu : Nat} {f : FuncId} {args args' : Array Value} {s s' : St} {v : Value} (h : ZA P ext fu f args s = some (v, s')) (ho : ∀ p ∈ s'.ob, p.1 = p.2) {ι : Ren} {w : World} (ha : VRs ι args args') (he : Emb P ι s.h.get w) (hf : Fresh ι s.n s'.n) :
  ∃ fn c, P.funcs[f]? = some fn ∧ fn.body = some c ∧ c.wp P (bodyPost P fn (ZcX P ι s w v s')) { tmps := args' ++ Array.replicate (fn.ntmps - args'.size) undef, defers := [] } w := by
 cases fu with
 | zero => simp [ZA] at h
 | succ fu =>
  simp only [ZA] at h
  split at h
  ·rename_i fn hfn
   split at h
   ·rename_i c hb
    obtain ⟨hsz, h⟩ := Zb h
    have hle : args.size ≤ fn.ntmps := Nat.le_of_ble_eq_true hsz
    split at h
    ·cases h
    ·rename_i ex T1 s1 hne h1
     have hs : s' = s1 ∧ (match Zp P T1 s1 fn.results.toList with | some [v] => some v | some vs => some (.tuple vs.toArray) | none => none) = some v := by
      split at h
      ·rename_i hr; injection h with h; injection h with q1 q2; subst q1 q2; exact ⟨rfl, by first | rw [hr] | rfl⟩
      ·rename_i vs hn hr; injection h with h; injection h with q1 q2; subst q1 q2
       refine ⟨rfl, ?_⟩
       try rw [hr]
       rcases vs with _ | ⟨x, _ | ⟨y, vs⟩⟩
       ·rfl
       ·exact absurd rfl (hn x)
       ·rfl
      ·cases h
     obtain ⟨rfl, hres⟩ := hs
     refine ⟨fn, c, hfn, hb, wp_mono ((ZM F fu).1 fn.ntmps c _ s ex T1 s' h1 ho ι [] _ w (Zch ha hle) he hf) ?_⟩
     rintro e2 a2 w2 ⟨rfl, ι2, g1, g2, g3⟩
     obtain ⟨v', hrun, hv⟩ := ZR g3 g1.emb hres
     cases ex with
     | normal => exact ⟨g3.2.1, v', hrun, v', ι2, rfl, g1, g2, hv⟩
     | ret => exact ⟨g3.2.1, v', hrun, v', ι2, rfl, g1, g2, hv⟩
     | exit i => exact (hne i rfl).elim
    ·cases h
   ·cases h
  ·cases h
theorem Zdi (F : Fit P ext) {fu : Nat} {fn : Func} {tmps : Array Value} {R : Ending → World → Prop} : ∀ (ds : List (FuncId × Array Value)) (s s' : St), Za9 P ext fu ds s = some s' → (∀ p ∈ s'.ob, p.1 = p.2) →
  ∀ ι D w, DR ι ds D → Emb P ι s.h.get w → Fresh ι s.n s'.n → (∀ ι' w', Step P ι s.h.get w ι' s'.h.get w' → Dom ι ι' s.n s'.n → Leaves P fn tmps R [] .returning w') → Leaves P fn tmps R D .returning w
 | [], s, s', h, ho, ι, D, w, hD, he, hf, hR => by
  simp only [Za9] at h
  injection h with h; subst h
  cases D with
  | nil => exact hR ι w (Step.refl he) Dom.refl
  | cons _ _ => exact hD.elim
 | d :: ds, s, s', h, ho, ι, D, w, hD, he, hf, hR => by
  simp only [Za9] at h
  split at h
  ·rename_i v s1 h1
   cases D with
   | nil => exact hD.elim
   | cons x D =>
    obtain ⟨⟨b, ht, hargs⟩, hD⟩ := hD
    have u1 := (ZB (P := P) (ext := ext) (fun f g hg => (F.hp f g hg).up) fu).2.2.2.1 _ _ _ _ _ h1
    have u2 := Zcx F ds _ _ h
    obtain ⟨fn', c, hfn, hb, hwp⟩ := Zhm F h1 (Zm u2.ob ho) hargs he (hf.mono (Nat.le_refl _) u2.n)
    refine ⟨by simp, _, _, d.1, x.args ++ b, ht, ?_, ?_⟩
    ·rw [ht]
     exact ZE hfn (F.go _ _ hfn) hb _ _
    ·refine (callsD_of_wp (u := .returning) hfn hb hwp).mono ?_
     rintro e u' w' ⟨rfl, v', ι', rfl, g1, g2, g3⟩
     exact Zdi F ds s1 s' h ho ι' D w' (hD.on g1.ext) g1.emb (hf.after g2 u1.n) fun ι2 w2 k1 k2 => hR ι2 w2 (g1.trans k1) (g2.trans k2 u1.n u2.n)
  ·cases h
theorem ZfZ (F : Fit P ext) {fu : Nat} {f : FuncId} {fn : Func} {c : Code} (hfn : P.funcs[f]? = some fn) (hb : fn.body = some c) : ZdI P f (ZcZ P ext fu f) := by
 refine ⟨⟨fn, c, hfn, hb⟩, fun args s v s' h => ?_, fun args s v s' h ho ι w args' ha he hf => ?_⟩
 ·unfold ZcZ at h
  rw [hfn] at h
  simp only [hb] at h
  replace h := (Zb h).2
  split at h
  ·rename_i r T s1 ds h1
   split at h
   ·rename_i s2 h2
    have u := (Zcw F fu _ _ _ _ _ _ _ _ h1).trans (Zcx F _ _ _ h2)
    split at h
    ·injection h with h; injection h with q1 q2; subst q2; exact u
    ·injection h with h; injection h with q1 q2; subst q2; exact u
    ·cases h
   ·cases h
  ·cases h
 ·unfold ZcZ at h
  rw [hfn] at h
  simp only [hb] at h
  obtain ⟨hsz, h⟩ := Zb h
  have hle : args.size ≤ fn.ntmps := Nat.le_of_ble_eq_true hsz
  split at h
  ·rename_i r T s1 ds h1
   split at h
   ·rename_i s2 h2
    have hs : s' = s2 ∧ (match Zp P T s2 fn.results.toList with | some [v] => some v | some vs => some (.tuple vs.toArray) | none => none) = some v := by
     split at h
     ·rename_i hr; injection h with h; injection h with q1 q2; subst q1 q2; exact ⟨rfl, rfl⟩
     ·rename_i vs hn hr; injection h with h; injection h with q1 q2; subst q1 q2
      exact ⟨rfl, rfl⟩
     ·cases h
    obtain ⟨rfl, hres⟩ := hs
    have u1 := Zcw F fu _ _ _ _ _ _ _ _ h1
    have u2 := Zcx F _ _ _ h2
    refine calls_of_wp_defers hfn hb (wp_mono (Zbv F fu c _ s [] r T s1 ds h1 (Zm u2.ob ho) ι [] _ w (Zch ha hle) trivial he (hf.mono (Nat.le_refl _) u2.n)) ?_)
    rintro ex a1 w1 ⟨rfl, ι1, D1, g1, g2, g3, g4⟩
    have key : Leaves P fn a1.tmps (ZcX P ι s w v s') a1.defers .returning w1 := by
     rw [g3.2.1]
     refine Zdi F ds s1 s' h2 ho ι1 D1 w1 g4 g1.emb (hf.after g2 u1.n) fun ι2 w2 k1 k2 => ?_
     obtain ⟨v', hrun, hv⟩ := ZR (g3.on k1.ext) k1.emb hres
     exact ⟨v', hrun, v', ι2, rfl, g1.trans k1, g2.trans k2 u1.n u2.n, hv⟩
    cases r <;> exact key
   ·cases h
  ·cases h
end
end Ev
end Go.Proofs.YtldlnclkdgfahaaGreat
/- A round's frame: what the runner says of code holds there too. -/
namespace Go.Proofs.YtldlnclkdgfahaaGreat
open Go.RowKit
namespace Ev
def ZbE (o : Oper) : Bool := match o.op with | .defer _ => false | _ => true
def ZN : Code → Bool
 | .seq a b => ZN a && ZN b
 | .cond _ a b => ZN a && ZN b
 | .block _ a => ZN a
 | .loop a => ZN a
 | .region _ ops _ => Ze ZbE ops.toList
 | .scope _ => false
 | _ => true
abbrev Fr (r : Option Nat) : Fence := { Fence.wide with round := r }
theorem ZbS {o : Oper} (h : ZbE o = true) : ∀ c, o.op ≠ .defer c := fun c e => by unfold ZbE at h; rw [e] at h; cases h
section
variable {P : Program} {ext : FuncId → Option Ext} {r : Option Nat}
theorem Zhn {n : Nat} {row : String} {args : Array Value} {w : World} {R : Value → World → Prop} (h : Rows P row args w R) : RowsIn (Fr r) n P row args w R := fun c cs _ => by
 obtain ⟨v, w', q, s⟩ := h c cs
 exact ⟨v, w', q, stepsIn_wide.2 s⟩
theorem ZgR {n f : Nat} {args : Array Value} {w : World} {R : Ending → World → Prop} (h : Calls P f args w R) : CallsIn (Fr r) n P f args w R := (callsIn_wide (n := n)).2 h
theorem ZdM {o : Oper} {a : Act} {w : World} {K : Act → World → Prop} {Q0 Q : Exit → Act → World → Prop} (hq : ∀ e a w, e ≠ .normal → ¬ Q0 e a w) (hnd : ∀ c, o.op ≠ .defer c) (h : o.wp P a w K Q0) : o.wpIn (Fr r) 0 P a w K Q := by
 refine ⟨fun _ _ => trivial, ?_⟩
 rw [Oper.semAt_eq _ _ _ hnd]
 unfold Oper.wp at h
 generalize (execOp a.eval o).run P w = x at h ⊢
 have no : ∀ (e : Exit) (a : Act) (w : World), e ≠ .normal → Q0 e a w → False := fun e a w he hx => hq e a w he hx
 cases x with
 | ok nx w' =>
  cases nx with
  | value v => exact h
  | skip => exact h
  | defer d => exact h
  | enter f args =>
   refine ⟨fun e => (by cases e), ZgR (Calls.mono h ?_)⟩
   intro e w2 h2
   cases e with
   | returned v => exact h2
   | panicked chain => exact (no _ _ _ (by simp) h2).elim
   | outgrown => obtain ⟨a0, w0, h0⟩ := h2; exact (no _ _ _ (by simp) h0).elim
  | row row args => exact ⟨fun e => (by cases e), Zhn h⟩
  | _ => exact h.elim
 | halt x w' =>
  cases x with
  | panic v => exact (no _ _ _ (by simp) h).elim
  | _ => exact h.elim
def Zga (Q : Exit → Act → World → Prop) : Exit → Act → World → Prop := fun e a w => e = .normal ∧ Q .normal a w
theorem ZeR {Q : Exit → Act → World → Prop} : ∀ e a w, e ≠ .normal → ¬ Zga Q e a w := fun e a w he h => he h.1
theorem ZdN {ops : Array Oper} {Q : Exit → Act → World → Prop} : ∀ (l : List Oper) (a : Act) (w : World), Ze ZbE l = true → wpList P ops (Zga Q) l a w → wpListIn (Fr r) 0 P ops Q l a w
 | [], a, w, _, h => h.2
 | o :: l, a, w, hn, h => by
  have ho := ZbS (Zj hn o (List.mem_cons_self ..))
  have hl : Ze ZbE l = true := ZdK fun x hx => Zj hn x (List.mem_cons_of_mem _ hx)
  unfold wpList at h
  unfold wpListIn
  split
  ·rename_i hw
   rw [if_pos hw] at h
   rcases h with h | ⟨_, a0, w0, h0⟩
   ·exact ZdM ZeR ho (Oper.wp_mono (fun a w => ZdN l a w hl) h)
   ·cases h0.1
  ·rename_i hw
   rw [if_neg hw] at h
   exact ⟨fun _ _ => trivial, ZdN l _ w hl h⟩
theorem Zd7 {ops : Array Oper} {Q : Exit → Act → World → Prop} {md : Region.Mode} (hn : Ze ZbE ops.toList = true) : ∀ (fuel : Nat) (listed : Array Bool) (a : Act) (w : World), wpAny P md ops (Zga Q) fuel listed a w → wpAnyIn (Fr r) 0 P md ops Q fuel listed a w
 | 0, listed, a, w, h => ⟨h.1, h.2.2⟩
 | fuel + 1, listed, a, w, h => by
  refine ⟨fun e => (h.1 e).2, fun i hi => ?_⟩
  have hi := h.2 i hi
  unfold wpOp at hi
  unfold wpOpIn
  split
  ·rename_i ho
   rw [ho] at hi
   exact Zd7 hn fuel _ a w hi
  ·rename_i o ho
   rw [ho] at hi
   simp only at hi
   have hd := ZbS (Zj hn o (by simpa using Array.mem_of_getElem? ho))
   split
   ·rename_i hw
    rw [if_pos hw] at hi
    rcases hi with hi | ⟨_, a0, w0, h0⟩
    ·exact ZdM ZeR hd (Oper.wp_mono (fun a w => Zd7 hn fuel _ a w) hi)
    ·cases h0.1
   ·rename_i hw
    rw [if_neg hw] at hi
    exact ⟨fun _ _ => trivial, Zd7 hn fuel _ _ w hi⟩
theorem Zbh {c : Code} {Q Q' : Exit → Act → World → Prop} (hq : ∀ e a w, Q e a w → Q' e a w) : ∀ (n : Nat) (a : Act) (w : World), Code.roundsIn (Fr r) 0 P c Q n a w → Code.roundsIn (Fr r) 0 P c Q' n a w
 | 0, _, _, h => h
 | n + 1, a, w, h => by
  rw [roundsIn_succ] at h ⊢
  refine wpIn_mono h ?_
  intro e a1 w1 h1
  cases e with
  | normal => exact Zbh hq n a1 w1 h1
  | _ => exact hq _ _ _ h1
theorem ZeS (F : Fit P ext) : ∀ fu : Nat,
  (∀ nt c T s e T' s', Zf P ext nt fu c T s = some (e, T', s') → ZN c = true → (∀ p ∈ s'.ob, p.1 = p.2) → ∀ ι D a w, TR ι nt D T a → Emb P ι s.h.get w → Fresh ι s.n s'.n → c.wpIn (Fr r) 0 P (ZY P ι s w nt D e T' s') a w) ∧
  (∀ nt c T s e T' s', Zf P ext nt fu (.loop c) T s = some (e, T', s') → ZN c = true → (∀ p ∈ s'.ob, p.1 = p.2) → ∀ ι D a w, TR ι nt D T a → Emb P ι s.h.get w → Fresh ι s.n s'.n → Code.roundsIn (Fr r) 0 P c (ZY P ι s w nt D e T' s') fu a w) := by
 intro fu
 induction fu with
 | zero => exact ⟨fun _ _ _ _ _ _ _ h => by simp [Zf] at h, fun _ _ _ _ _ _ _ h => by simp [Zf] at h⟩
 | succ fu ih =>
  obtain ⟨ihC, ihL⟩ := ih
  obtain ⟨upC, upO, upP, upF, upD, upE⟩ := ZB (P := P) (ext := ext) (fun f g hg => (F.hp f g hg).up) fu
  have loops : ∀ nt c T s e T' s', Zf P ext nt (fu + 1) (.loop c) T s = some (e, T', s') → ZN c = true → (∀ p ∈ s'.ob, p.1 = p.2) → ∀ ι D a w, TR ι nt D T a → Emb P ι s.h.get w → Fresh ι s.n s'.n → Code.roundsIn (Fr r) 0 P c (ZY P ι s w nt D e T' s') (fu + 1) a w := by
   intro nt x T s e T' s' h hn ho ι D a w hT he hf
   simp only [Zf] at h
   rw [roundsIn_succ]
   split at h
   ·rename_i T1 s1 h1
    have u1 := upC _ _ _ _ _ _ _ h1
    have u2 := upC _ _ _ _ _ _ _ h
    refine wpIn_mono (ihC nt x T s .normal T1 s1 h1 hn (Zm u2.ob ho) ι D a w hT he (hf.mono (Nat.le_refl _) u2.n)) ?_
    rintro ex a1 w1 ⟨rfl, ι1, g1, g2, g3⟩
    refine Zbh ?_ fu a1 w1 (ihL nt x T1 s1 e T' s' h hn ho ι1 D a1 w1 g3 g1.emb (hf.after g2 u1.n))
    rintro ex2 a2 w2 ⟨rfl, ι2, k1, k2, k3⟩
    exact ⟨rfl, ι2, g1.trans k1, g2.trans k2 u1.n u2.n, k3⟩
   ·rename_i i T1 s1 h1
    injection h with h; simp only [Prod.mk.injEq] at h; obtain ⟨rfl, rfl, rfl⟩ := h
    refine wpIn_mono (ihC nt x T s _ _ _ h1 hn ho ι D a w hT he hf) ?_
    rintro ex a1 w1 ⟨rfl, hq⟩
    exact ⟨rfl, hq⟩
   ·rename_i T1 s1 h1
    injection h with h; simp only [Prod.mk.injEq] at h; obtain ⟨rfl, rfl, rfl⟩ := h
    refine wpIn_mono (ihC nt x T s _ _ _ h1 hn ho ι D a w hT he hf) ?_
    rintro ex a1 w1 ⟨rfl, hq⟩
    exact ⟨rfl, hq⟩
   ·cases h
  refine ⟨fun nt c T s e T' s' h hn ho ι D a w hT he hf => ?_, loops⟩
  have base : ZY P ι s w nt D .normal T s .normal a w ∧ ZY P ι s w nt D .ret T s .ret a w ∧ ∀ i, ZY P ι s w nt D (.exit i) T s (.exit i) a w :=
   ⟨⟨rfl, ι, Step.refl he, Dom.refl, hT⟩, ⟨rfl, ι, Step.refl he, Dom.refl, hT⟩, fun i => ⟨rfl, ι, Step.refl he, Dom.refl, hT⟩⟩
  have chain : ∀ {s1 : St} {T1 : Tr Value} {c2 : Code} {a1 : Act} {w1 : World} {ι1 : Ren}, ZN c2 = true → Up s s1 → Up s1 s' → Step P ι s.h.get w ι1 s1.h.get w1 → Dom ι ι1 s.n s1.n → TR ι1 nt D T1 a1 → Zf P ext nt fu c2 T1 s1 = some (e, T', s') →
    c2.wpIn (Fr r) 0 P (ZY P ι s w nt D e T' s') a1 w1 := fun {s1 T1 c2 a1 w1 ι1} n2 u1 u2 h1 h2 h3 h4 => by
   refine wpIn_mono (ihC nt c2 T1 s1 e T' s' h4 n2 ho ι1 D a1 w1 h3 h1.emb ((hf.mono (Nat.le_refl _) (Nat.le_refl _)).after h2 u1.n)) ?_
   rintro ex a2 w2 ⟨rfl, ι2, g1, g2, g3⟩
   exact ⟨rfl, ι2, (Step.two ⟨h1, h2⟩ ⟨g1, g2⟩ u1.n u2.n).1, (Step.two ⟨h1, h2⟩ ⟨g1, g2⟩ u1.n u2.n).2, g3⟩
  have h0 := h
  cases c <;> simp only [Zf] at h
  case skip => injection h with h; simp only [Prod.mk.injEq] at h; obtain ⟨rfl, rfl, rfl⟩ := h; exact wpIn_skip base.1
  case label l => injection h with h; simp only [Prod.mk.injEq] at h; obtain ⟨rfl, rfl, rfl⟩ := h; exact wpIn_label base.1
  case scope c => cases hn
  case ret => injection h with h; simp only [Prod.mk.injEq] at h; obtain ⟨rfl, rfl, rfl⟩ := h; exact wpIn_ret base.2.1
  case exit id => injection h with h; simp only [Prod.mk.injEq] at h; obtain ⟨rfl, rfl, rfl⟩ := h; exact wpIn_exit (base.2.2 id)
  case seq x y =>
   simp only [ZN, Bool.and_eq_true] at hn
   split at h
   ·rename_i T1 s1 h1
    have u1 := upC _ _ _ _ _ _ _ h1
    have u2 := upC _ _ _ _ _ _ _ h
    refine wpIn_seq (wpIn_mono (ihC nt x T s .normal T1 s1 h1 hn.1 (Zm u2.ob ho) ι D a w hT he (hf.mono (Nat.le_refl _) u2.n)) ?_)
    rintro ex a1 w1 ⟨rfl, ι1, g1, g2, g3⟩
    exact chain hn.2 u1 u2 g1 g2 g3 h
   ·rename_i i T1 s1 h1
    injection h with h; simp only [Prod.mk.injEq] at h; obtain ⟨rfl, rfl, rfl⟩ := h
    refine wpIn_seq (wpIn_mono (ihC nt x T s _ _ _ h1 hn.1 ho ι D a w hT he hf) ?_)
    rintro ex a1 w1 ⟨rfl, hq⟩
    exact ⟨rfl, hq⟩
   ·rename_i T1 s1 h1
    injection h with h; simp only [Prod.mk.injEq] at h; obtain ⟨rfl, rfl, rfl⟩ := h
    refine wpIn_seq (wpIn_mono (ihC nt x T s _ _ _ h1 hn.1 ho ι D a w hT he hf) ?_)
    rintro ex a1 w1 ⟨rfl, hq⟩
    exact ⟨rfl, hq⟩
   ·cases h
  case cond x y z =>
   simp only [ZN, Bool.and_eq_true] at hn
   split at h
   ·rename_i t ht
    have hx : a.eval x = .bool t := Zar ((ht ▸ hT.opnd x : VR ι (.bool t) (Zv a x)).bool_inv)
    split at h
    ·exact wpIn_cond_true hx (ihC nt y T s e T' s' h hn.1 ho ι D a w hT he hf)
    ·exact wpIn_cond_false hx (ihC nt z T s e T' s' h hn.2 ho ι D a w hT he hf)
   ·cases h
  case block id x =>
   simp only [ZN] at hn
   split at h
   ·rename_i i T1 s1 h1
    cases hb : Nat.beq i id with
    | true =>
     rw [hb] at h
     injection h with h; simp only [Prod.mk.injEq] at h; obtain ⟨rfl, rfl, rfl⟩ := h
     refine wpIn_block (wpIn_mono (ihC nt x T s _ _ _ h1 hn ho ι D a w hT he hf) ?_)
     rintro ex a1 w1 ⟨rfl, hq⟩
     show if i = id then _ else _
     rw [if_pos (Nat.eq_of_beq_eq_true hb)]
     exact ⟨rfl, hq⟩
    | false =>
     rw [hb] at h
     injection h with h; simp only [Prod.mk.injEq] at h; obtain ⟨rfl, rfl, rfl⟩ := h
     refine wpIn_block (wpIn_mono (ihC nt x T s _ _ _ h1 hn ho ι D a w hT he hf) ?_)
     rintro ex a1 w1 ⟨rfl, hq⟩
     show if i = id then _ else _
     rw [if_neg (fun e => by rw [ZbC e] at hb; cases hb)]
     exact ⟨rfl, hq⟩
   ·rename_i T1 s1 h1
    injection h with h; simp only [Prod.mk.injEq] at h; obtain ⟨rfl, rfl, rfl⟩ := h
    refine wpIn_block (wpIn_mono (ihC nt x T s _ _ _ h1 hn ho ι D a w hT he hf) ?_)
    rintro ex a1 w1 ⟨rfl, hq⟩
    exact ⟨rfl, hq⟩
   ·rename_i T1 s1 h1
    injection h with h; simp only [Prod.mk.injEq] at h; obtain ⟨rfl, rfl, rfl⟩ := h
    refine wpIn_block (wpIn_mono (ihC nt x T s _ _ _ h1 hn ho ι D a w hT he hf) ?_)
    rintro ex a1 w1 ⟨rfl, hq⟩
    exact ⟨rfl, hq⟩
   ·cases h
  case loop x =>
   simp only [ZN] at hn
   exact wpIn_loop_rounds (fu + 1) (loops nt x T s e T' s' h0 hn ho ι D a w hT he hf)
  case region id ops draw =>
   simp only [ZN] at hn
   cases draw with
   | true =>
    simp only [cond_true] at h
    split at h
    ·rename_i es T1 s1 h1
     injection h with h; simp only [Prod.mk.injEq] at h; obtain ⟨rfl, rfl, rfl⟩ := h
     exact wpIn_region_any F.mixed (Zd7 hn _ _ _ _ (ZeP F (fun fu' _ => (ZM F fu').2.2.1) h1 ho hT he hf fun ι' a' w' g1 g2 g3 => ⟨rfl, rfl, ι', g1, g2, g3⟩))
    ·cases h
   | false =>
   simp only [cond_false] at h
   split at h
   ·rename_i T1 s1 h1
    injection h with h; simp only [Prod.mk.injEq] at h; obtain ⟨rfl, rfl, rfl⟩ := h
    exact wpIn_region_list (ZdN _ _ _ hn ((ZM F fu).2.1 nt ops ops.toList T s T1 s1 h1 ho ι D a w _ hT he hf fun ι' a' w' g1 g2 g3 => ⟨rfl, rfl, ι', g1, g2, g3⟩))
   ·cases h
  all_goals cases h
end
end Ev
end Go.Proofs.YtldlnclkdgfahaaGreat
/- Ranges over functions: the rounds, the iterator, the statement. -/
namespace Go.Proofs.YtldlnclkdgfahaaGreat
open Go.RowKit
namespace Ev
noncomputable section
structure Cx where
 nt : Nat
 T : Tr Value
 ps : Array Tmp
 asg : Code
 body : Code
def ZgS : List Tmp → List Value → Tr Value → Tr Value
 | t :: ts, v :: vs, T => ZgS ts vs (T.set t (some v))
 | _, _, T => T
def isN : Ex → Bool
 | .normal => true
 | _ => false
def pend : Ex → Option Ex
 | .normal => none
 | e => some e
def Zcj (P : Program) (ext : FuncId → Option Ext) (cx : Cx) (fu : Nat) (xs : List Value) (s : St) : Option (Ex × St) :=
 bif Nat.beq xs.length cx.ps.toList.length && Ze (fun t => Nat.blt t cx.nt) cx.ps.toList && ZN cx.asg && ZN cx.body then
  match Zf P ext cx.nt fu cx.asg (ZgS cx.ps.toList xs cx.T) s with
  | some (.normal, T1, s1) => match Zf P ext cx.nt fu cx.body T1 s1 with
   | some (e, _, s2) => some (e, s2)
   | none => none
  | _ => none
 else none
def Zf7 (ys : List Tmp) (o : Oper) : Option (Array Operand) :=
 match o.op with
 | .call c => match c.callee with
  | .value (.tmp t) => bif Zcn t ys then some c.args else none
  | _ => none
 | _ => none
def Zd8 (ys : List Tmp) (o : Oper) : Bool :=
 match o.op with
 | .move (.tmp t) => Zcn t ys
 | _ => false
def Zgb (dst : Option Tmp) (ys : List Tmp) : List Tmp := match dst with | some d => ys.filter (fun t => !Nat.beq t d) | none => ys
def addY (dst : Option Tmp) (ys : List Tmp) : List Tmp := match dst with | some d => d :: ys | none => ys
def Zaz (P : Program) (ext : FuncId → Option Ext) (nt : Nat) (cx : Cx) (fu : Nat) (ops : Array Oper) : List Oper → Tr Value → St → List Tmp → Option Ex → Option (Tr Value × St × List Tmp × Option Ex)
 | [], T, s, ys, pe => some (T, s, ys, pe)
 | o :: l, T, s, ys, pe =>
  bif Za1 nt o.dst && Ze Zau o.op.operands.toList && (ZbE o && o.guard.isNone) then
   match Zf7 ys o with
   | some xs => match pe with
    | none => match Zcj P ext cx fu (xs.toList.map (opnd T)) s with
     | some (e, s1) => Zaz P ext nt cx fu ops l (ZQ T o.dst (.bool (isN e))) s1 (Zgb o.dst ys) (pend e)
     | none => none
    | some _ => none
   | none => bif Zd8 ys o then Zaz P ext nt cx fu ops l (ZQ T o.dst (.chan (some 0))) s (addY o.dst ys) pe
    else match Za4 P ext fu (opnd T) o s with
     | some (v, s1) => Zaz P ext nt cx fu ops l (ZQ T o.dst v) s1 (Zgb o.dst ys) pe
     | none => none
  else none
def evI (P : Program) (ext : FuncId → Option Ext) (nt : Nat) (cx : Cx) : Nat → Code → Tr Value → St → List Tmp → Option Ex → Option (Ex × Tr Value × St × List Tmp × Option Ex)
 | 0, _, _, _, _, _ => none
 | fu + 1, c, T, s, ys, pe => match c with
  | .skip => some (.normal, T, s, ys, pe)
  | .ret => some (.ret, T, s, ys, pe)
  | .exit id => some (.exit id, T, s, ys, pe)
  | .seq a b => match evI P ext nt cx fu a T s ys pe with
   | some (.normal, T', s', ys', pe') => evI P ext nt cx fu b T' s' ys' pe'
   | some (.exit i, r) => some (.exit i, r)
   | some (.ret, r) => some (.ret, r)
   | none => none
  | .cond x a b => match opnd T x with
   | .bool t => match t with
    | true => evI P ext nt cx fu a T s ys pe
    | false => evI P ext nt cx fu b T s ys pe
   | _ => none
  | .block id a => match evI P ext nt cx fu a T s ys pe with
   | some (.exit i, r) => bif Nat.beq i id then some (.normal, r) else some (.exit i, r)
   | some (.normal, r) => some (.normal, r)
   | some (.ret, r) => some (.ret, r)
   | none => none
  | .loop a => match evI P ext nt cx fu a T s ys pe with
   | some (.normal, T', s', ys', pe') => evI P ext nt cx fu (.loop a) T' s' ys' pe'
   | some (.exit i, r) => some (.exit i, r)
   | some (.ret, r) => some (.ret, r)
   | none => none
  | .region _ ops draw => match draw with
   | true => none
   | false => match Zaz P ext nt cx fu ops ops.toList T s ys pe with
    | some (T', s', ys', pe') => some (.normal, T', s', ys', pe')
    | none => none
  | _ => none
def ZeT (P : Program) (ext : FuncId → Option Ext) (nt fu : Nat) (g : Operand) (ps : Array Tmp) (asg body : Code) (T : Tr Value) (s : St) : Option (Ex × St) :=
 match opnd T g with
 | .func (.func gf) av bv => match P.funcs[gf]? with
  | some fn => match fn.body with
   | some c => bif Zau g && Nat.ble (av ++ #[Value.chan (some 0)] ++ bv).size fn.ntmps && Nat.beq fn.results.toList.length 0 then
     match evI P ext fn.ntmps ⟨nt, T, ps, asg, body⟩ fu c (ZaS 0 (av ++ #[Value.chan (some 0)] ++ bv).toList .nil) s [av.size] none with
     | some (.exit _, _) => none
     | some (_, _, s', _, none) => some (.normal, s')
     | some (_, _, s', _, some e) => bif isN e then none else some (e, s')
     | none => none
    else none
   | none => none
  | none => none
 | _ => none
def evR (P : Program) (ext : FuncId → Option Ext) (nt : Nat) : Nat → Code → Tr Value → St → Bool → Option (Ex × Tr Value × St × Bool)
 | 0, _, _, _, _ => none
 | fu + 1, c, T, s, m => match c with
  | .seq a b => match evR P ext nt fu a T s m with
   | some (.normal, T', s', m') => evR P ext nt fu b T' s' m'
   | some (.exit i, r) => some (.exit i, r)
   | some (.ret, r) => some (.ret, r)
   | none => none
  | .cond x a b => match opnd T x with
   | .bool t => match t with
    | true => evR P ext nt fu a T s m
    | false => evR P ext nt fu b T s m
   | _ => none
  | .block id a => match evR P ext nt fu a T s m with
   | some (.exit i, r) => bif Nat.beq i id then some (.normal, r) else some (.exit i, r)
   | some (.normal, r) => some (.normal, r)
   | some (.ret, r) => some (.ret, r)
   | none => none
  | .rangeFunc g ps asg body => bif m then none else match ZeT P ext nt fu g ps asg body T s with
   | some (e, s') => some (e, T, s', true)
   | none => none
  | .region i ops draw => match Zf P ext nt (fu + 1) (.region i ops draw) T s with
   | some (e, T', s') => some (e, T', s', m)
   | none => none
  | .loop a => match Zf P ext nt (fu + 1) (.loop a) T s with
   | some (e, T', s') => some (e, T', s', m)
   | none => none
  | .skip => some (.normal, T, s, m)
  | .ret => some (.ret, T, s, m)
  | .exit id => some (.exit id, T, s, m)
  | _ => none
def Zbw (P : Program) (ext : FuncId → Option Ext) (fu : Nat) (f : FuncId) (args : Array Value) (s : St) : Out :=
 match P.funcs[f]? with
 | some fn => match fn.body with
  | some c => bif Nat.ble args.size fn.ntmps then match evR P ext fn.ntmps fu c (ZaS 0 args.toList .nil) s false with
   | some (.exit _, _) => none
   | some (_, T, s', _) => match Zp P T s' fn.results.toList with
    | some [v] => some (v, s')
    | some vs => some (.tuple vs.toArray, s')
    | none => none
   | none => none
   else none
  | none => none
 | none => none
end
section
variable {P : Program} {ext : FuncId → Option Ext}
theorem Step.put {ι0 ι : Ren} {h0 h : AH} {w0 W : World} (st : Step P ι0 h0 w0 ι h W) {l : Nat} (hl : w0.heap.size ≤ l) (hn : ∀ k b, ι k = some b → b.1 ≠ l) (o : Obj) : Step P ι0 h0 w0 ι h (W.putObj l o) where
 ext := st.ext
 emb := ⟨fun k c t hk => by
   obtain ⟨b, C, q1, q2, q3⟩ := st.emb.obj k c t hk
   exact ⟨b, C, q1, (World.putObj_heap_other (hn k b q1)).trans q2, q3⟩,
  fun k O hk => by
   obtain ⟨b, q1, q2⟩ := st.emb.ro k O hk
   exact ⟨b, q1, q2.on (World.putObj_heap_other (hn k b q1))⟩, st.emb.inj, fun k b hk => by
   have := st.emb.lt k b hk
   simpa [World.putObj] using this⟩
 os := st.os
 tape := st.tape
 output := st.output
 size := by have := st.size; simpa [World.putObj] using this
 frame := fun b hb hc => (World.putObj_heap_other (by omega)).trans (st.frame b hb hc)
 new := st.new
 alive := st.alive
 kind := st.kind
structure IS (P : Program) (ι0 : Ren) (h0 : AH) (w0 : World) (n0 : Nat) (cn : Nat) (cT : Tr Value) (ac : Act) (l K : Nat) (R : Loop) (ι : Ren) (s : St) (W : World) : Prop where
 st : Step P ι0 h0 w0 ι s.h.get W
 dm : Dom ι0 ι n0 s.n
 hn : n0 ≤ s.n
 tr : TR ι cn [] cT { tmps := ac.tmps, defers := [] }
 lo : W.heap[l]? = some (.loop R)
 de : W.heap[K]? = some (.deferred (some []))
 ll : w0.heap.size ≤ l
 lk : K ≠ l
 nl : ∀ k b, ι k = some b → b.1 ≠ l ∧ b.1 ≠ K
theorem Zdq {ι ι1 : Ren} {h h1 : AH} {W W1 : World} (g : Step P ι h W ι1 h1 W1) {l : Nat} (hl : l < W.heap.size) (hn : ∀ k b, ι k = some b → b.1 ≠ l) : (∀ k b, ι1 k = some b → b.1 ≠ l) ∧ W1.heap[l]? = W.heap[l]? := by
 refine ⟨fun k b hk => ?_, g.frame l hl fun k c _ hc => hn k c hc⟩
 cases hi : ι k with
 | some c =>
  have := g.ext k c hi
  rw [hk] at this
  injection this with this
  rw [this]; exact hn k c hi
 | none =>
  rcases g.new k b hi hk with h | ⟨j, c, _, hj, e⟩
  ·omega
  ·rw [← e]; exact hn j c hj
section
variable {ι0 : Ren} {h0 : AH} {w0 : World} {n0 cn : Nat} {cT : Tr Value} {ac : Act} {l K : Nat} {R : Loop}
theorem IS.step {ι ι1 : Ren} {s s1 : St} {W W1 : World} (I : IS P ι0 h0 w0 n0 cn cT ac l K R ι s W) (g1 : Step P ι s.h.get W ι1 s1.h.get W1) (g2 : Dom ι ι1 s.n s1.n) (hle : s.n ≤ s1.n) : IS P ι0 h0 w0 n0 cn cT ac l K R ι1 s1 W1 := by
 have hl : l < W.heap.size := (Array.getElem?_eq_some_iff.1 I.lo).1
 have hk : K < W.heap.size := (Array.getElem?_eq_some_iff.1 I.de).1
 obtain ⟨a1, a2⟩ := Zdq g1 hl fun k b h => (I.nl k b h).1
 obtain ⟨b1, b2⟩ := Zdq g1 hk fun k b h => (I.nl k b h).2
 exact ⟨I.st.trans g1, I.dm.trans g2 I.hn hle, Nat.le_trans I.hn hle, I.tr.on g1.ext, a2.trans I.lo, b2.trans I.de, I.ll, I.lk, fun k b h => ⟨a1 k b h, b1 k b h⟩⟩
theorem IS.put {ι : Ren} {s : St} {W : World} (I : IS P ι0 h0 w0 n0 cn cT ac l K R ι s W) (R' : Loop) : IS P ι0 h0 w0 n0 cn cT ac l K R' ι s (W.putObj l (.loop R')) := by
 have hl : l < W.heap.size := (Array.getElem?_eq_some_iff.1 I.lo).1
 exact ⟨I.st.put I.ll (fun k b h => (I.nl k b h).1) _, I.dm, I.hn, I.tr, World.putObj_heap_same hl, (World.putObj_heap_other I.lk).trans I.de, I.ll, I.lk, I.nl⟩
end
def Zhy : Ex → Code
 | .exit i => .exit i
 | _ => .ret
def Rp (R : Loop) : Option Ex → Loop
 | none => { R with state := .ready, pending := none }
 | some e => { R with state := .done, pending := some (Zhy e) }
theorem Zg7 {ι : Ren} {nt : Nat} : ∀ (ps : List Tmp) (xs xs' : List Value) (T : Tr Value) (t : Array Value), TR ι nt [] T { tmps := t, defers := [] } → xs.length = ps.length → VRs ι xs.toArray xs'.toArray → Ze (fun t => Nat.blt t nt) ps = true →
  TR ι nt [] (ZgS ps xs T) { tmps := (ps.zip xs').foldl (fun t p => t.setIfInBounds p.1 p.2) t, defers := [] }
 | [], xs, xs', T, t, hT, hl, hx, hp => by
  cases xs with
  | nil => exact hT
  | cons x xs => simp at hl
 | p :: ps, [], xs', T, t, hT, hl, hx, hp => by simp at hl
 | p :: ps, x :: xs, [], T, t, hT, hl, hx, hp => by have := hx.1; simp at this
 | p :: ps, x :: xs, x' :: xs', T, t, hT, hl, hx, hp => by
  have hp1 : Za1 nt (some p) = true := Zj hp p (List.mem_cons_self ..)
  have hp2 : Ze (fun t => Nat.blt t nt) ps = true := ZdK fun y hy => Zj hp y (List.mem_cons_of_mem _ hy)
  have h1 : VR ι x x' := hx.2 0 x x' (by simp) (by simp)
  have h2 : VRs ι xs.toArray xs'.toArray := ⟨by have := hx.1; simpa using this, fun i y y' hy hy' => hx.2 (i + 1) y y' (by simpa using hy) (by simpa using hy')⟩
  exact Zg7 ps xs xs' (T.set p (some x)) (t.setIfInBounds p x') (hT.put (dst := some p) hp1 h1) (by simpa using hl) h2 hp2
section
variable {ι0 : Ren} {h0 : AH} {w0 : World} {n0 : Nat} {ac : Act} {l K : Nat} {R : Loop} {cx : Cx}
theorem Zfx (F : Fit P ext) {fu : Nat} {xs : List Value} {s s' : St} {e : Ex} (h : Zcj P ext cx fu xs s = some (e, s')) (ho : ∀ p ∈ s'.ob, p.1 = p.2) {ι : Ren} {W : World}
  (hR : R.tmps = ac.tmps ∧ R.params = cx.ps ∧ R.assign = cx.asg ∧ R.body = cx.body) (I : IS P ι0 h0 w0 n0 cx.nt cx.T ac l K (Rp R none) ι s W) (hf : Fresh ι s.n s'.n) {xs' : Array Value} (hx : VRs ι xs.toArray xs') :
  ∃ tm, (Instr.yield l xs').run P W = .ok (.round l R.fn tm cx.asg cx.body) W ∧
   RoundIn (Fr none) 0 P l R.fn tm cx.asg cx.body W fun en W' => en = .returned (.bool (isN e)) ∧ ∃ ι', (∀ k b, ι k = some b → ι' k = some b) ∧ Dom ι ι' s.n s'.n ∧ IS P ι0 h0 w0 n0 cx.nt cx.T ac l K (Rp R (pend e)) ι' s' W' := by
 unfold Zcj at h
 obtain ⟨hg, h⟩ := Zb h
 simp only [Bool.and_eq_true] at hg
 obtain ⟨⟨⟨hl, hps⟩, hna⟩, hnb⟩ := hg
 have hl := Nat.eq_of_beq_eq_true hl
 obtain ⟨upC, _⟩ := ZB (P := P) (ext := ext) (fun f g hg => (F.hp f g hg).up) fu
 split at h
 ·rename_i T1 s1 h1
  split at h
  ·rename_i e' T2 s2 h2
   injection h with h; injection h with q1 q2; subst q1 q2
   have u1 := upC _ _ _ _ _ _ _ h1
   have u2 := upC _ _ _ _ _ _ _ h2
   have hy := run_yield (P := P) (args := xs') I.lo (by
    show xs'.size = R.params.size
    rw [hR.2.1]
    have a := hx.1
    have b := hl
    simp only [List.size_toArray, Array.length_toList] at a b
    omega)
   have e1 : (Rp R none).tmps = ac.tmps := hR.1
   have e2 : (Rp R none).params = cx.ps := hR.2.1
   have e3 : (Rp R none).assign = cx.asg := hR.2.2.1
   have e4 : (Rp R none).body = cx.body := hR.2.2.2
   have e5 : (Rp R none).fn = R.fn := rfl
   rw [e1, e2, e3, e4, e5] at hy
   refine ⟨_, hy, ?_⟩
   have htr := Zg7 cx.ps.toList xs xs'.toList cx.T ac.tmps I.tr hl (by simpa using hx) hps
   have hfold : (cx.ps.zip xs').foldl (fun (tmps : Array Value) (x : Tmp × Value) => match x with | (t, a) => tmps.setIfInBounds t a) ac.tmps = (cx.ps.toList.zip xs'.toList).foldl (fun t p => t.setIfInBounds p.1 p.2) ac.tmps := by
    rw [← Array.foldl_toList, Array.toList_zip]
   rw [hfold]
   refine roundIn_of_wpIn (F := Fr none) trivial ?_
   refine wpIn_mono (((ZeS (r := some l) F fu).1 cx.nt cx.asg _ s .normal T1 s1 h1 hna (Zm u2.ob ho) ι [] _ W htr I.st.emb (hf.mono (Nat.le_refl _) u2.n)) : Code.wpIn (Fr (some l)) 0 P _ _ _ W) ?_
   rintro ex a1 w1 ⟨rfl, ι1, g1, g2, g3⟩
   have I1 := I.step g1 g2 u1.n
   refine ⟨_, run_beginRound I1.lo rfl, ?_⟩
   have I2 := I1.put { Rp R none with state := .busy }
   refine wpIn_mono (((ZeS (r := some l) F fu).1 cx.nt cx.body T1 s1 e' T2 s2 h2 hnb ho ι1 [] a1 _ g3 I2.st.emb (hf.after g2 u1.n)) : Code.wpIn (Fr (some l)) 0 P _ _ _ _) ?_
   rintro ex a2 w2 ⟨rfl, ι2, k1, k2, k3⟩
   have I3 := I2.step k1 k2 u2.n
   have hext : ∀ k b, ι k = some b → ι2 k = some b := fun k b hk => k1.ext k b (g1.ext k b hk)
   have hdom : Dom ι ι2 s.n s2.n := g2.trans k2 u1.n u2.n
   cases e' with
   | normal => exact ⟨_, _, run_endRound none I3.lo, rfl, ι2, hext, hdom, I3.put _⟩
   | ret => exact ⟨_, _, run_endRound (some .ret) I3.lo, rfl, ι2, hext, hdom, I3.put _⟩
   | exit i => exact ⟨_, _, run_endRound (some (.exit i)) I3.lo, rfl, ι2, hext, hdom, I3.put _⟩
  ·cases h
 ·cases h
end
end
end Ev
end Go.Proofs.YtldlnclkdgfahaaGreat
/- Ranges over functions: the iterator's code, the statement, the function. -/
namespace Go.Proofs.YtldlnclkdgfahaaGreat
open Go.RowKit
namespace Ev
section
variable {P : Program} {ext : FuncId → Option Ext}
theorem ZeU (F : Fit P ext) {cx : Cx} {fu : Nat} {xs : List Value} {s s' : St} {e : Ex} (h : Zcj P ext cx fu xs s = some (e, s')) : Up s s' := by
 unfold Zcj at h
 obtain ⟨_, h⟩ := Zb h
 obtain ⟨upC, _⟩ := ZB (P := P) (ext := ext) (fun f g hg => (F.hp f g hg).up) fu
 split at h
 ·rename_i T1 s1 h1
  split at h
  ·rename_i e' T2 s2 h2
   injection h with h; injection h with q1 q2; subst q1 q2
   exact (upC _ _ _ _ _ _ _ h1).trans (upC _ _ _ _ _ _ _ h2)
  ·cases h
 ·cases h
theorem Zbx (F : Fit P ext) {nt : Nat} {cx : Cx} {fu : Nat} {ops : Array Oper} : ∀ (l : List Oper) (T : Tr Value) (s : St) (ys : List Tmp) (pe : Option Ex) (T' : Tr Value) (s' : St) (ys' : List Tmp) (pe' : Option Ex), Zaz P ext nt cx fu ops l T s ys pe = some (T', s', ys', pe') → Up s s'
 | [], T, s, ys, pe, T', s', ys', pe', h => by
  simp only [Zaz] at h
  injection h with h; simp only [Prod.mk.injEq] at h; obtain ⟨rfl, rfl, rfl, rfl⟩ := h
  exact Up.refl _
 | o :: l, T, s, ys, pe, T', s', ys', pe', h => by
  simp only [Zaz] at h
  obtain ⟨_, h⟩ := Zb h
  split at h
  ·split at h
   ·split at h
    ·rename_i e s1 h1
     exact (ZeU F h1).trans (Zbx F l _ _ _ _ _ _ _ _ h)
    ·cases h
   ·cases h
  ·cases hm : Zd8 ys o with
   | true => rw [hm] at h; exact Zbx F l _ _ _ _ _ _ _ _ h
   | false =>
    rw [hm] at h
    simp only [cond_false] at h
    split at h
    ·rename_i v s1 h1
     exact ((ZB (P := P) (ext := ext) (fun f g hg => (F.hp f g hg).up) fu).2.2.1 _ _ _ _ _ h1).trans (Zbx F l _ _ _ _ _ _ _ _ h)
    ·cases h
theorem ZV (F : Fit P ext) {nt : Nat} {cx : Cx} : ∀ (fu : Nat) (c : Code) (T : Tr Value) (s : St) (ys : List Tmp) (pe : Option Ex) (e : Ex) (T' : Tr Value) (s' : St) (ys' : List Tmp) (pe' : Option Ex), evI P ext nt cx fu c T s ys pe = some (e, T', s', ys', pe') → Up s s'
 | 0, _, _, _, _, _, _, _, _, _, _, h => by simp [evI] at h
 | fu + 1, c, T, s, ys, pe, e, T', s', ys', pe', h => by
  cases c <;> simp only [evI] at h
  case skip => injection h with h; simp only [Prod.mk.injEq] at h; obtain ⟨rfl, rfl, rfl, rfl, rfl⟩ := h; exact Up.refl _
  case ret => injection h with h; simp only [Prod.mk.injEq] at h; obtain ⟨rfl, rfl, rfl, rfl, rfl⟩ := h; exact Up.refl _
  case exit id => injection h with h; simp only [Prod.mk.injEq] at h; obtain ⟨rfl, rfl, rfl, rfl, rfl⟩ := h; exact Up.refl _
  case seq x y =>
   split at h
   ·rename_i T1 s1 ys1 pe1 h1; exact (ZV F fu _ _ _ _ _ _ _ _ _ _ h1).trans (ZV F fu _ _ _ _ _ _ _ _ _ _ h)
   ·rename_i i r h1; injection h with h; simp only [Prod.mk.injEq] at h; obtain ⟨rfl, rfl⟩ := h; exact ZV F fu _ _ _ _ _ _ _ _ _ _ h1
   ·rename_i r h1; injection h with h; simp only [Prod.mk.injEq] at h; obtain ⟨rfl, rfl⟩ := h; exact ZV F fu _ _ _ _ _ _ _ _ _ _ h1
   ·cases h
  case cond x y z =>
   split at h
   ·split at h
    ·exact ZV F fu _ _ _ _ _ _ _ _ _ _ h
    ·exact ZV F fu _ _ _ _ _ _ _ _ _ _ h
   ·cases h
  case block id x =>
   split at h
   ·rename_i i r h1
    cases hb : Nat.beq i id with
    | true => rw [hb] at h; injection h with h; simp only [Prod.mk.injEq] at h; obtain ⟨rfl, rfl⟩ := h; exact ZV F fu _ _ _ _ _ _ _ _ _ _ h1
    | false => rw [hb] at h; injection h with h; simp only [Prod.mk.injEq] at h; obtain ⟨rfl, rfl⟩ := h; exact ZV F fu _ _ _ _ _ _ _ _ _ _ h1
   ·rename_i r h1; injection h with h; simp only [Prod.mk.injEq] at h; obtain ⟨rfl, rfl⟩ := h; exact ZV F fu _ _ _ _ _ _ _ _ _ _ h1
   ·rename_i r h1; injection h with h; simp only [Prod.mk.injEq] at h; obtain ⟨rfl, rfl⟩ := h; exact ZV F fu _ _ _ _ _ _ _ _ _ _ h1
   ·cases h
  case loop x =>
   split at h
   ·rename_i T1 s1 ys1 pe1 h1; exact (ZV F fu _ _ _ _ _ _ _ _ _ _ h1).trans (ZV F fu _ _ _ _ _ _ _ _ _ _ h)
   ·rename_i i r h1; injection h with h; simp only [Prod.mk.injEq] at h; obtain ⟨rfl, rfl⟩ := h; exact ZV F fu _ _ _ _ _ _ _ _ _ _ h1
   ·rename_i r h1; injection h with h; simp only [Prod.mk.injEq] at h; obtain ⟨rfl, rfl⟩ := h; exact ZV F fu _ _ _ _ _ _ _ _ _ _ h1
   ·cases h
  case region id ops draw =>
   split at h
   ·cases h
   ·split at h
    ·rename_i T1 s1 ys1 pe1 h1
     injection h with h; simp only [Prod.mk.injEq] at h; obtain ⟨rfl, rfl, rfl, rfl, rfl⟩ := h
     exact Zbx F _ _ _ _ _ _ _ _ _ h1
    ·cases h
  all_goals cases h
def YS (l : Nat) (ys : List Tmp) (a : Act) : Prop := ∀ t ∈ ys, a.tmps.getD t undef = .func (.yield l) #[] #[]
theorem YS.drop {l : Nat} {ys : List Tmp} {a : Act} {nt : Nat} (h : YS l ys a) (hs : a.tmps.size = nt) {dst : Option Tmp} (hd : Za1 nt dst = true) (v : Value) : YS l (Zgb dst ys) (a.put dst v) := fun t ht => by
 rw [Zdp hs hd]
 cases dst with
 | none => rw [if_neg (by simp)]; exact h t ht
 | some d =>
  have ht : t ∈ ys.filter (fun t => !Nat.beq t d) := ht
  obtain ⟨h1, h2⟩ := List.mem_filter.1 ht
  have : ¬ d = t := fun e => by subst e; simp at h2
  rw [if_neg (by simpa using this)]
  exact h t h1
theorem YS.add {l : Nat} {ys : List Tmp} {a : Act} {nt : Nat} (h : YS l ys a) (hs : a.tmps.size = nt) {dst : Option Tmp} (hd : Za1 nt dst = true) : YS l (addY dst ys) (a.put dst (.func (.yield l) #[] #[])) := fun t ht => by
 rw [Zdp hs hd]
 split
 ·rfl
 ·rename_i hne
  cases dst with
  | none => exact h t ht
  | some d =>
   rcases List.mem_cons.1 (show t ∈ d :: ys from ht) with rfl | ht
   ·exact absurd rfl hne
   ·exact h t ht
section
variable {ι0 : Ren} {h0 : AH} {w0 : World} {n0 : Nat} {ac : Act} {l0 K : Nat} {R : Loop} {cx : Cx}
theorem Zbp (F : Fit P ext) (hR : R.tmps = ac.tmps ∧ R.params = cx.ps ∧ R.assign = cx.asg ∧ R.body = cx.body) {nt fu : Nat} {ops : Array Oper} : ∀ (l : List Oper) (T : Tr Value) (s : St) (ys : List Tmp) (pe : Option Ex) (T' : Tr Value) (s' : St) (ys' : List Tmp) (pe' : Option Ex), Zaz P ext nt cx fu ops l T s ys pe = some (T', s', ys', pe') → (∀ p ∈ s'.ob, p.1 = p.2) →
  ∀ ι a W (Q : Exit → Act → World → Prop), TR ι nt [] T a → YS l0 ys a → IS P ι0 h0 w0 n0 cx.nt cx.T ac l0 K (Rp R pe) ι s W → Fresh ι s.n s'.n →
   (∀ ι' a' W', TR ι' nt [] T' a' → YS l0 ys' a' → IS P ι0 h0 w0 n0 cx.nt cx.T ac l0 K (Rp R pe') ι' s' W' → Dom ι ι' s.n s'.n → Q .normal a' W') → wpListIn (Fr none) 0 P ops Q l a W
 | [], T, s, ys, pe, T', s', ys', pe', h, ho, ι, a, W, Q, hT, hY, I, hf, hQ => by
  simp only [Zaz] at h
  injection h with h; simp only [Prod.mk.injEq] at h; obtain ⟨rfl, rfl, rfl, rfl⟩ := h
  exact hQ ι a W hT hY I Dom.refl
 | o :: l, T, s, ys, pe, T', s', ys', pe', h, ho, ι, a, W, Q, hT, hY, I, hf, hQ => by
  simp only [Zaz] at h
  obtain ⟨hg, h⟩ := Zb h
  simp only [Bool.and_eq_true] at hg
  obtain ⟨⟨hd, hgo⟩, hnd, hgu⟩ := hg
  have hnd := ZbS hnd
  have hgu : o.guard = none := by simpa using hgu
  have hwant : Region.wanted o (yielded ops a.tmps) = true := (ZU (ops := ops) (s := s) (s' := s) (b := true) (fun t _ => hT.2.2 t) (by simp [Zac, hgu])).1
  unfold wpListIn
  rw [if_pos hwant]
  split at h
  ·rename_i xs hy
   have hy : ∃ c t, o.op = .call c ∧ c.callee = .value (.tmp t) ∧ t ∈ ys ∧ c.args = xs := by
    unfold Zf7 at hy
    split at hy
    ·rename_i c hop
     split at hy
     ·rename_i t hc
      obtain ⟨hm, hy⟩ := Zb hy
      injection hy with hy
      exact ⟨c, t, hop, hc, ZaN.1 hm, hy⟩
     ·cases hy
    ·cases hy
   obtain ⟨c, t, hop, hc, ht, rfl⟩ := hy
   split at h
   ·split at h
    ·rename_i e s1 h1
     have u1 := ZeU F h1
     have u2 := Zbx F _ _ _ _ _ _ _ _ _ h
     have hx : VRs ι (c.args.toList.map (opnd T)).toArray (c.args.map (Zv a)) := by
      have := Zbu hT.opnd c.args
      rwa [show (c.args.toList.map (opnd T)).toArray = c.args.map (opnd T) by rw [← Array.toList_map]]
     obtain ⟨tm, hrun, hround⟩ := Zfx F h1 (Zm u2.ob ho) hR I (hf.mono (Nat.le_refl _) u2.n) hx
     have hex : (execOp a.eval o).run P W = .ok (.round l0 R.fn tm cx.asg cx.body) W := by
      rw [← Zbd (fun cs b e => by rw [hop] at e; cases e) hgo, ← hrun]
      have hv : Zv a (.tmp t) = .func (.yield l0) #[] #[] := hY t ht
      simp [execOp, hop, resolve, hc, hv, Deferred.ofValue, invoke, Result.andThen, Sem.run]
     refine ⟨fun _ _ => trivial, ?_⟩
     rw [show (Fr none).round = none from rfl, Oper.semAt_none, hex, Oper.uponIn_round]
     refine ⟨fun e => (by cases e), hround.mono ?_⟩
     rintro en W' ⟨rfl, ι', hext, hdom, I'⟩
     refine Zbp F hR l _ s1 _ _ T' s' ys' pe' h ho ι' _ W' Q ((hT.on hext).put hd (VR.of_free rfl)) (hY.drop hT.1 hd _) I' (hf.after hdom u1.n) fun ι2 a2 W2 k1 k2 k3 k4 => hQ ι2 a2 W2 k1 k2 k3 (hdom.trans k4 u1.n u2.n)
    ·cases h
   ·cases h
  ·cases hm : Zd8 ys o with
   | true =>
    rw [hm] at h
    simp only [cond_true] at h
    have hm : ∃ t, o.op = .move (.tmp t) ∧ t ∈ ys := by
     unfold Zd8 at hm
     split at hm
     ·rename_i t hop; exact ⟨t, hop, ZaN.1 hm⟩
     ·cases hm
    obtain ⟨t, hop, ht⟩ := hm
    have hv : a.eval (.tmp t) = .func (.yield l0) #[] #[] := hY t ht
    refine ⟨fun _ _ => trivial, ?_⟩
    rw [show (Fr none).round = none from rfl, Oper.semAt_none]
    have hex : (execOp a.eval o).run P W = .ok (.value (.func (.yield l0) #[] #[])) W := by
     unfold execOp; rw [hop]; simp only; rw [hv]; rfl
    rw [hex, Oper.uponIn_value]
    exact Zbp F hR l _ s _ pe T' s' ys' pe' h ho ι _ W Q (hT.put hd (VR.glob rfl)) (hY.add hT.1 hd) I hf hQ
   | false =>
    rw [hm] at h
    simp only [cond_false] at h
    split at h
    ·rename_i v s1 hv
     have u1 := (ZB (P := P) (ext := ext) (fun f g hg => (F.hp f g hg).up) fu).2.2.1 _ _ _ _ _ hv
     have u2 := Zbx F _ _ _ _ _ _ _ _ _ h
     refine ZdM (r := none) (Q0 := fun _ _ _ => False) (fun _ _ _ _ h => h) hnd ((ZM F fu).2.2.1 (opnd T) (Zv a) o s v s1 hv (Zm u2.ob ho) ι W hT.opnd I.st.emb (hf.mono (Nat.le_refl _) u2.n) a _ _ (Zbd (Zcv hv) hgo).symm fun v' w' ι' g1 g2 g3 => ?_)
     exact Zbp F hR l _ s1 _ pe T' s' ys' pe' h ho ι' _ w' Q ((hT.on g1.ext).put hd g3) (hY.drop hT.1 hd _) (I.step g1 g2 u1.n) (hf.after g2 u1.n) fun ι2 a2 W2 k1 k2 k3 k4 => hQ ι2 a2 W2 k1 k2 k3 (g2.trans k4 u1.n u2.n)
    ·cases h
end
end
end Ev
end Go.Proofs.YtldlnclkdgfahaaGreat
/- Ranges over functions: the iterator, the statement. -/
namespace Go.Proofs.YtldlnclkdgfahaaGreat
open Go.RowKit
namespace Ev
section
variable {P : Program} {ext : FuncId → Option Ext}
section
variable {ι0 : Ren} {h0 : AH} {w0 : World} {n0 : Nat} {ac : Act} {l0 K : Nat} {R : Loop} {cx : Cx}
def Zd9 (P : Program) (ι0 : Ren) (h0 : AH) (w0 : World) (n0 : Nat) (cx : Cx) (ac : Act) (l0 K : Nat) (R : Loop) (nt : Nat) (ι : Ren) (s : St) (e : Ex) (T' : Tr Value) (s' : St) (ys' : List Tmp) (pe' : Option Ex) (ex : Exit) (a' : Act) (W' : World) : Prop :=
 ex = e.out ∧ ∃ ι', TR ι' nt [] T' a' ∧ YS l0 ys' a' ∧ IS P ι0 h0 w0 n0 cx.nt cx.T ac l0 K (Rp R pe') ι' s' W' ∧ Dom ι ι' s.n s'.n
theorem Zho (F : Fit P ext) (hR : R.tmps = ac.tmps ∧ R.params = cx.ps ∧ R.assign = cx.asg ∧ R.body = cx.body) {nt : Nat} : ∀ fu : Nat,
  (∀ c T s ys pe e T' s' ys' pe', evI P ext nt cx fu c T s ys pe = some (e, T', s', ys', pe') → (∀ p ∈ s'.ob, p.1 = p.2) → ∀ ι a W, TR ι nt [] T a → YS l0 ys a → IS P ι0 h0 w0 n0 cx.nt cx.T ac l0 K (Rp R pe) ι s W → Fresh ι s.n s'.n →
   c.wpIn (Fr none) 0 P (Zd9 P ι0 h0 w0 n0 cx ac l0 K R nt ι s e T' s' ys' pe') a W) ∧
  (∀ c T s ys pe e T' s' ys' pe', evI P ext nt cx fu (.loop c) T s ys pe = some (e, T', s', ys', pe') → (∀ p ∈ s'.ob, p.1 = p.2) → ∀ ι a W, TR ι nt [] T a → YS l0 ys a → IS P ι0 h0 w0 n0 cx.nt cx.T ac l0 K (Rp R pe) ι s W → Fresh ι s.n s'.n →
   Code.roundsIn (Fr none) 0 P c (Zd9 P ι0 h0 w0 n0 cx ac l0 K R nt ι s e T' s' ys' pe') fu a W) := by
 intro fu
 induction fu with
 | zero => exact ⟨fun _ _ _ _ _ _ _ _ _ _ h => by simp [evI] at h, fun _ _ _ _ _ _ _ _ _ _ h => by simp [evI] at h⟩
 | succ fu ih =>
  obtain ⟨ihC, ihL⟩ := ih
  have two : ∀ {ι ι1 : Ren} {s s1 s' : St} {e : Ex} {T' : Tr Value} {ys' : List Tmp} {pe' : Option Ex}, Dom ι ι1 s.n s1.n → s.n ≤ s1.n → s1.n ≤ s'.n → ∀ ex a W, Zd9 P ι0 h0 w0 n0 cx ac l0 K R nt ι1 s1 e T' s' ys' pe' ex a W → Zd9 P ι0 h0 w0 n0 cx ac l0 K R nt ι s e T' s' ys' pe' ex a W :=
   fun hd h1 h2 ex a W ⟨hx, ι', k1, k2, k3, k4⟩ => ⟨hx, ι', k1, k2, k3, hd.trans k4 h1 h2⟩
  have loops : ∀ c T s ys pe e T' s' ys' pe', evI P ext nt cx (fu + 1) (.loop c) T s ys pe = some (e, T', s', ys', pe') → (∀ p ∈ s'.ob, p.1 = p.2) → ∀ ι a W, TR ι nt [] T a → YS l0 ys a → IS P ι0 h0 w0 n0 cx.nt cx.T ac l0 K (Rp R pe) ι s W → Fresh ι s.n s'.n →
    Code.roundsIn (Fr none) 0 P c (Zd9 P ι0 h0 w0 n0 cx ac l0 K R nt ι s e T' s' ys' pe') (fu + 1) a W := by
   intro x T s ys pe e T' s' ys' pe' h ho ι a W hT hY I hf
   simp only [evI] at h
   rw [roundsIn_succ]
   split at h
   ·rename_i T1 s1 ys1 pe1 h1
    have u1 := ZV F fu _ _ _ _ _ _ _ _ _ _ h1
    have u2 := ZV F fu _ _ _ _ _ _ _ _ _ _ h
    refine wpIn_mono (ihC x T s ys pe .normal T1 s1 ys1 pe1 h1 (Zm u2.ob ho) ι a W hT hY I (hf.mono (Nat.le_refl _) u2.n)) ?_
    rintro ex a1 w1 ⟨rfl, ι1, g1, g2, g3, g4⟩
    exact Zbh (two g4 u1.n u2.n) fu a1 w1 (ihL x T1 s1 ys1 pe1 e T' s' ys' pe' h ho ι1 a1 w1 g1 g2 g3 (hf.after g4 u1.n))
   ·rename_i i r h1
    injection h with h; simp only [Prod.mk.injEq] at h; obtain ⟨rfl, rfl⟩ := h
    refine wpIn_mono (ihC x T s ys pe _ _ _ _ _ h1 ho ι a W hT hY I hf) ?_
    rintro ex a1 w1 ⟨rfl, hq⟩
    exact ⟨rfl, hq⟩
   ·rename_i r h1
    injection h with h; simp only [Prod.mk.injEq] at h; obtain ⟨rfl, rfl⟩ := h
    refine wpIn_mono (ihC x T s ys pe _ _ _ _ _ h1 ho ι a W hT hY I hf) ?_
    rintro ex a1 w1 ⟨rfl, hq⟩
    exact ⟨rfl, hq⟩
   ·cases h
  refine ⟨fun c T s ys pe e T' s' ys' pe' h ho ι a W hT hY I hf => ?_, loops⟩
  have h0' := h
  cases c <;> simp only [evI] at h
  case skip => injection h with h; simp only [Prod.mk.injEq] at h; obtain ⟨rfl, rfl, rfl, rfl, rfl⟩ := h; exact wpIn_skip ⟨rfl, ι, hT, hY, I, Dom.refl⟩
  case ret => injection h with h; simp only [Prod.mk.injEq] at h; obtain ⟨rfl, rfl, rfl, rfl, rfl⟩ := h; exact wpIn_ret ⟨rfl, ι, hT, hY, I, Dom.refl⟩
  case exit id => injection h with h; simp only [Prod.mk.injEq] at h; obtain ⟨rfl, rfl, rfl, rfl, rfl⟩ := h; exact wpIn_exit ⟨rfl, ι, hT, hY, I, Dom.refl⟩
  case seq x y =>
   split at h
   ·rename_i T1 s1 ys1 pe1 h1
    have u1 := ZV F fu _ _ _ _ _ _ _ _ _ _ h1
    have u2 := ZV F fu _ _ _ _ _ _ _ _ _ _ h
    refine wpIn_seq (wpIn_mono (ihC x T s ys pe .normal T1 s1 ys1 pe1 h1 (Zm u2.ob ho) ι a W hT hY I (hf.mono (Nat.le_refl _) u2.n)) ?_)
    rintro ex a1 w1 ⟨rfl, ι1, g1, g2, g3, g4⟩
    exact wpIn_mono (ihC y T1 s1 ys1 pe1 e T' s' ys' pe' h ho ι1 a1 w1 g1 g2 g3 (hf.after g4 u1.n)) (two g4 u1.n u2.n)
   ·rename_i i r h1
    injection h with h; simp only [Prod.mk.injEq] at h; obtain ⟨rfl, rfl⟩ := h
    refine wpIn_seq (wpIn_mono (ihC x T s ys pe _ _ _ _ _ h1 ho ι a W hT hY I hf) ?_)
    rintro ex a1 w1 ⟨rfl, hq⟩
    exact ⟨rfl, hq⟩
   ·rename_i r h1
    injection h with h; simp only [Prod.mk.injEq] at h; obtain ⟨rfl, rfl⟩ := h
    refine wpIn_seq (wpIn_mono (ihC x T s ys pe _ _ _ _ _ h1 ho ι a W hT hY I hf) ?_)
    rintro ex a1 w1 ⟨rfl, hq⟩
    exact ⟨rfl, hq⟩
   ·cases h
  case cond x y z =>
   split at h
   ·rename_i t ht
    have hx : a.eval x = .bool t := Zar ((ht ▸ hT.opnd x : VR ι (.bool t) (Zv a x)).bool_inv)
    split at h
    ·exact wpIn_cond_true hx (ihC y T s ys pe e T' s' ys' pe' h ho ι a W hT hY I hf)
    ·exact wpIn_cond_false hx (ihC z T s ys pe e T' s' ys' pe' h ho ι a W hT hY I hf)
   ·cases h
  case block id x =>
   split at h
   ·rename_i i r h1
    cases hb : Nat.beq i id with
    | true =>
     rw [hb] at h
     injection h with h; simp only [Prod.mk.injEq] at h; obtain ⟨rfl, rfl⟩ := h
     refine wpIn_block (wpIn_mono (ihC x T s ys pe _ _ _ _ _ h1 ho ι a W hT hY I hf) ?_)
     rintro ex a1 w1 ⟨rfl, hq⟩
     show if i = id then _ else _
     rw [if_pos (Nat.eq_of_beq_eq_true hb)]
     exact ⟨rfl, hq⟩
    | false =>
     rw [hb] at h
     injection h with h; simp only [Prod.mk.injEq] at h; obtain ⟨rfl, rfl⟩ := h
     refine wpIn_block (wpIn_mono (ihC x T s ys pe _ _ _ _ _ h1 ho ι a W hT hY I hf) ?_)
     rintro ex a1 w1 ⟨rfl, hq⟩
     show if i = id then _ else _
     rw [if_neg (fun e => by rw [ZbC e] at hb; cases hb)]
     exact ⟨rfl, hq⟩
   ·rename_i r h1
    injection h with h; simp only [Prod.mk.injEq] at h; obtain ⟨rfl, rfl⟩ := h
    refine wpIn_block (wpIn_mono (ihC x T s ys pe _ _ _ _ _ h1 ho ι a W hT hY I hf) ?_)
    rintro ex a1 w1 ⟨rfl, hq⟩
    exact ⟨rfl, hq⟩
   ·rename_i r h1
    injection h with h; simp only [Prod.mk.injEq] at h; obtain ⟨rfl, rfl⟩ := h
    refine wpIn_block (wpIn_mono (ihC x T s ys pe _ _ _ _ _ h1 ho ι a W hT hY I hf) ?_)
    rintro ex a1 w1 ⟨rfl, hq⟩
    exact ⟨rfl, hq⟩
   ·cases h
  case loop x => exact wpIn_loop_rounds (fu + 1) (loops x T s ys pe e T' s' ys' pe' h0' ho ι a W hT hY I hf)
  case region id ops draw =>
   split at h
   ·cases h
   ·split at h
    ·rename_i T1 s1 ys1 pe1 h1
     injection h with h; simp only [Prod.mk.injEq] at h; obtain ⟨rfl, rfl, rfl, rfl, rfl⟩ := h
     exact wpIn_region_list (Zbp F hR ops.toList T s ys pe T1 s1 ys1 pe1 h1 ho ι a W _ hT hY I hf fun ι' a' W' k1 k2 k3 k4 => ⟨rfl, ι', k1, k2, k3, k4⟩)
    ·cases h
  all_goals cases h
end
def Mk (b : Nat) (m : Bool) (D : List Deferred) (ι : Ren) (w : World) : Prop := match m with
 | false => D = []
 | true => ∃ K, b ≤ K ∧ D = [{ target := .collected K, args := #[] }] ∧ w.heap[K]? = some (.deferred (some [])) ∧ ∀ k b, ι k = some b → b.1 ≠ K
theorem Mk.step {b : Nat} {m : Bool} {D : List Deferred} {ι ι1 : Ren} {h h1 : AH} {w w1 : World} (hm : Mk b m D ι w) (g : Step P ι h w ι1 h1 w1) : Mk b m D ι1 w1 := by
 cases m with
 | false => exact hm
 | true =>
  obtain ⟨K, hb, e, hk, hn⟩ := hm
  obtain ⟨a1, a2⟩ := Zdq g (Array.getElem?_eq_some_iff.1 hk).1 hn
  exact ⟨K, hb, e, a2.trans hk, a1⟩
def Zcy (b : Nat) (P : Program) (ι : Ren) (s : St) (w : World) (nt : Nat) (e : Ex) (T' : Tr Value) (s' : St) (m' : Bool) (ex : Exit) (a' : Act) (w' : World) : Prop :=
 ex = e.out ∧ ∃ ι' D', Step P ι s.h.get w ι' s'.h.get w' ∧ Dom ι ι' s.n s'.n ∧ TR ι' nt D' T' a' ∧ Mk b m' D' ι' w'
theorem up_rf (F : Fit P ext) {nt fu : Nat} {g : Operand} {ps : Array Tmp} {asg body : Code} {T : Tr Value} {s s' : St} {e : Ex} (h : ZeT P ext nt fu g ps asg body T s = some (e, s')) : Up s s' := by
 unfold ZeT at h
 split at h
 ·split at h
  ·split at h
   ·obtain ⟨_, h⟩ := Zb h
    split at h
    ·cases h
    ·rename_i h1; injection h with h; injection h with q1 q2; subst q2; exact ZV F _ _ _ _ _ _ _ _ _ _ _ h1
    ·rename_i h1; obtain ⟨_, h⟩ := Zct h; injection h with h; injection h with q1 q2; subst q2; exact ZV F _ _ _ _ _ _ _ _ _ _ _ h1
    ·cases h
   ·cases h
  ·cases h
 ·cases h
theorem ZgT (F : Fit P ext) {nt fu : Nat} {g : Operand} {ps : Array Tmp} {asg body : Code} {T : Tr Value} {s s' : St} {e : Ex} (h : ZeT P ext nt fu g ps asg body T s = some (e, s')) (ho : ∀ p ∈ s'.ob, p.1 = p.2) {b : Nat} {ι : Ren} {a : Act} {w : World} (hbw : b ≤ w.heap.size)
  (hT : TR ι nt [] T a) (he : Emb P ι s.h.get w) (hf : Fresh ι s.n s'.n) : (Code.rangeFunc g ps asg body).wpIn (Fr none) 0 P (Zcy b P ι s w nt e T s' true) a w := by
 unfold ZeT at h
 split at h
 ·rename_i gf av bv hg
  split at h
  ·rename_i fn hfn
   split at h
   ·rename_i c hb
    obtain ⟨hgd, h⟩ := Zb h
    simp only [Bool.and_eq_true] at hgd
    obtain ⟨⟨hgd, hsz⟩, hres⟩ := hgd
    have hsz := Nat.le_of_ble_eq_true hsz
    have hres := Nat.eq_of_beq_eq_true hres
    have key : ∃ e0 T1 ys1 pe, evI P ext fn.ntmps ⟨nt, T, ps, asg, body⟩ fu c (ZaS 0 (av ++ #[Value.chan (some 0)] ++ bv).toList .nil) s [av.size] none = some (e0, T1, s', ys1, pe) ∧ (e0 = .normal ∨ e0 = .ret) ∧ e = (match pe with | none => .normal | some e => e) ∧ (∀ e1, pe = some e1 → isN e1 = false) := by
     split at h
     ·cases h
     ·rename_i e0 T1 s1 ys1 hne h1
      injection h with h; injection h with q1 q2; subst q1 q2
      refine ⟨e0, T1, ys1, none, h1, ?_, rfl, fun e1 he => by cases he⟩
      cases e0 with
      | normal => exact .inl rfl
      | ret => exact .inr rfl
      | exit i => exact (hne i rfl).elim
     ·rename_i e0 T1 s1 ys1 e1 hne h1
      obtain ⟨hn1, h⟩ := Zct h
      injection h with h; injection h with q1 q2; subst q1 q2
      refine ⟨e0, T1, ys1, some e1, h1, ?_, rfl, fun e2 he => by injection he with he; rw [← he]; exact hn1⟩
      cases e0 with
      | normal => exact .inl rfl
      | ret => exact .inr rfl
      | exit i => exact (hne i rfl).elim
     ·cases h
    obtain ⟨e0, T1, ys1, pe, h1, he0, hepe, hnn⟩ := key
    have hgv : ∃ av' bv', Zv a g = .func (.func gf) av' bv' ∧ VRs ι av av' ∧ VRs ι bv bv' := by
     have hv := hg ▸ hT.opnd g
     generalize Zv a g = x' at hv
     cases hv with
     | atom h =>
      simp [Ev.atom] at h
      obtain ⟨rfl, rfl⟩ := h
      exact ⟨_, _, rfl, ⟨rfl, fun i x y hx => by simp at hx⟩, ⟨rfl, fun i x y hx => by simp at hx⟩⟩
     | func hs ht h1 h2 => exact ⟨_, _, rfl, ⟨hs, h1⟩, ⟨ht, h2⟩⟩
    obtain ⟨av', bv', hgv, hav, hbv⟩ := hgv
    have hgv : a.eval g = .func (.func gf) av' bv' := by
     cases g with
     | const v => simp only [Zau] at hgd; simpa [Zv, hgd, Act.eval] using hgv
     | _ => exact hgv
    refine wpIn_rangeFunc ?_
    intro fn0 _
    obtain ⟨R, hRd⟩ : ∃ R : Loop, R = { state := .ready, pending := none, fn := fn0, tmps := a.tmps, params := ps, assign := asg, body, defers := w.heap.size } := ⟨_, rfl⟩
    obtain ⟨W1, hW1⟩ : ∃ W1, (w.alloc (.deferred (some []))).alloc (.loop R) = W1 := ⟨_, rfl⟩
    have hL1 : W1.heap[w.heap.size + 1]? = some (.loop (Rp R none)) := by
     rw [show Rp R none = R by rw [hRd]; rfl]
     rw [← hW1]; have := World.alloc_heap_new (w.alloc (.deferred (some []))) (.loop R); rwa [World.size_alloc] at this
    have hK1 : W1.heap[w.heap.size]? = some (.deferred (some [])) := by
     rw [← hW1]; exact (Below.heap_alloc _ _ _ (by simp)).trans (World.alloc_heap_new w _)
    have hb1 : Below w.heap.size w W1 := by
     rw [← hW1]; exact ((Below.refl _ w).alloc (Nat.le_refl _) _).alloc (by simp) _
    have I1 : IS P ι s.h.get w s.n nt T a (w.heap.size + 1) w.heap.size (Rp R none) ι s W1 :=
     ⟨Step.below he hb1, Dom.refl, Nat.le_refl _, ⟨hT.1, rfl, hT.2.2⟩, hL1, hK1, by omega, by omega, fun k b hk => by have := he.lt k b hk; omega⟩
    have hargs : VRs ι (av ++ #[Value.chan (some 0)] ++ bv) (av' ++ #[Value.func (.yield (w.heap.size + 1)) #[] #[]] ++ bv') :=
     ZZ (ZZ hav ⟨rfl, fun i x y hx hy => by
      cases i with
      | zero => simp at hx hy; rw [← hx, ← hy]; exact .glob rfl
      | succ i => simp at hx⟩) hbv
    refine ⟨w.heap.size + 1, [{ target := .collected w.heap.size, args := #[] }], W1, { target := .fn (.func gf) bv', args := av' ++ #[.func (.yield (w.heap.size + 1)) #[] #[]] }, W1, gf,
     av' ++ #[.func (.yield (w.heap.size + 1)) #[] #[]] ++ bv', W1, ?_, ?_, fun _ _ => trivial, ?_, fun e => (by cases e), ?_⟩
    ·rw [← hW1, hRd]; exact run_enterLoop_outer _ _ _ _ _
    ·simp only [resolve, hgv]
     simp [go_sem, Deferred.ofValue]
    ·simp [invoke, ZE hfn (F.go gf fn hfn) hb]
    ·refine callsIn_of_wp_marks hfn hb trivial ?_
     refine wpIn_mono ((Zho (R := R) (cx := ⟨nt, T, ps, asg, body⟩) (ac := a) F ⟨by rw [hRd], by rw [hRd], by rw [hRd], by rw [hRd]⟩ fu).1 c _ s _ none e0 T1 s' ys1 pe h1 ho ι _ W1 (Zch hargs hsz) ?_ I1 hf) ?_
     ·intro t ht
      rw [List.mem_singleton] at ht
      subst ht
      have hs := hav.1
      rw [Array.getD_eq_getD_getElem?, Array.getElem?_append_left (by simp; omega), Array.getElem?_append_left (by simp; omega), Array.getElem?_append_right (by omega)]
      simp [hs]
     ·rintro ex a2 w2 ⟨rfl, ι2, g1, _, I2, g4⟩
      have hr := run_endLoop (P := P) I2.lo (by cases pe <;> simp [Rp])
      have I3 := I2.put { Rp R pe with state := .exhausted }
      have hr2 : ∃ v', (results fn a2.tmps).run P w2 = .ok v' w2 := by
       have hnil : fn.results.toList = [] := List.eq_nil_of_length_eq_zero hres
       obtain ⟨v', q, _⟩ := ZR (fn := fn) (v := .tuple #[]) g1 I2.st.emb (by rw [hnil]; rfl)
       exact ⟨v', q⟩
      obtain ⟨v', hrun⟩ := hr2
      have fin : LeavesInM (Fr none) (0 - 1) P fn a2.tmps (rangePost (Fr none) 0 P (w.heap.size + 1) (Zcy b P ι s w nt e T s' true) { a with defers := [{ target := .collected w.heap.size, args := #[] }] ++ a.defers }) a2.defers .returning w2 := by
       rw [g1.2.1]
       refine ⟨v', hrun, _, _, hr, ?_⟩
       have post : Zcy b P ι s w nt e T s' true e.out { a with defers := [{ target := .collected w.heap.size, args := #[] }] ++ a.defers } (w2.putObj (w.heap.size + 1) (.loop { Rp R pe with state := .exhausted })) := by
        refine ⟨rfl, ι2, _, I3.st, I3.dm, ⟨I3.tr.1, rfl, I3.tr.2.2⟩, w.heap.size, hbw, ?_, I3.de, fun k b hk => (I3.nl k b hk).2⟩
        rw [hT.2.1]; rfl
       cases pe with
       | none => rw [hepe] at post ⊢; exact post
       | some e1 =>
        cases e1 with
        | normal => exact absurd (hnn _ rfl) (by simp [isN])
        | ret => rw [hepe] at post ⊢; exact wpIn_ret post
        | exit i => rw [hepe] at post ⊢; exact wpIn_exit post
      rcases he0 with rfl | rfl
      ·exact fin
      ·exact fin
   ·cases h
  ·cases h
 ·cases h
end
end Ev
end Go.Proofs.YtldlnclkdgfahaaGreat
/- Functions with a range over a function do what the runner says of them. -/
namespace Go.Proofs.YtldlnclkdgfahaaGreat
open Go.RowKit
namespace Ev
section
variable {P : Program} {ext : FuncId → Option Ext}
theorem ZaO (F : Fit P ext) {nt : Nat} : ∀ (fu : Nat) (c : Code) (T : Tr Value) (s : St) (m : Bool) (e : Ex) (T' : Tr Value) (s' : St) (m' : Bool), evR P ext nt fu c T s m = some (e, T', s', m') → Up s s'
 | 0, _, _, _, _, _, _, _, _, h => by simp [evR] at h
 | fu + 1, c, T, s, m, e, T', s', m', h => by
  have upC := (ZB (P := P) (ext := ext) (fun f g hg => (F.hp f g hg).up) (fu + 1)).1
  cases c <;> simp only [evR] at h
  case skip => injection h with h; simp only [Prod.mk.injEq] at h; obtain ⟨rfl, rfl, rfl, rfl⟩ := h; exact Up.refl _
  case ret => injection h with h; simp only [Prod.mk.injEq] at h; obtain ⟨rfl, rfl, rfl, rfl⟩ := h; exact Up.refl _
  case exit id => injection h with h; simp only [Prod.mk.injEq] at h; obtain ⟨rfl, rfl, rfl, rfl⟩ := h; exact Up.refl _
  case seq x y =>
   split at h
   ·rename_i T1 s1 m1 h1; exact (ZaO F fu _ _ _ _ _ _ _ _ h1).trans (ZaO F fu _ _ _ _ _ _ _ _ h)
   ·rename_i i r h1; injection h with h; simp only [Prod.mk.injEq] at h; obtain ⟨rfl, rfl⟩ := h; exact ZaO F fu _ _ _ _ _ _ _ _ h1
   ·rename_i r h1; injection h with h; simp only [Prod.mk.injEq] at h; obtain ⟨rfl, rfl⟩ := h; exact ZaO F fu _ _ _ _ _ _ _ _ h1
   ·cases h
  case cond x y z =>
   split at h
   ·split at h
    ·exact ZaO F fu _ _ _ _ _ _ _ _ h
    ·exact ZaO F fu _ _ _ _ _ _ _ _ h
   ·cases h
  case block id x =>
   split at h
   ·rename_i i r h1
    cases hb : Nat.beq i id with
    | true => rw [hb] at h; injection h with h; simp only [Prod.mk.injEq] at h; obtain ⟨rfl, rfl⟩ := h; exact ZaO F fu _ _ _ _ _ _ _ _ h1
    | false => rw [hb] at h; injection h with h; simp only [Prod.mk.injEq] at h; obtain ⟨rfl, rfl⟩ := h; exact ZaO F fu _ _ _ _ _ _ _ _ h1
   ·rename_i r h1; injection h with h; simp only [Prod.mk.injEq] at h; obtain ⟨rfl, rfl⟩ := h; exact ZaO F fu _ _ _ _ _ _ _ _ h1
   ·rename_i r h1; injection h with h; simp only [Prod.mk.injEq] at h; obtain ⟨rfl, rfl⟩ := h; exact ZaO F fu _ _ _ _ _ _ _ _ h1
   ·cases h
  case rangeFunc g ps asg body =>
   obtain ⟨_, h⟩ := Zct h
   split at h
   ·rename_i e1 s1 h1
    injection h with h; simp only [Prod.mk.injEq] at h; obtain ⟨rfl, rfl, rfl, rfl⟩ := h
    exact up_rf F h1
   ·cases h
  case region id ops draw =>
   split at h
   ·rename_i e1 T1 s1 h1
    injection h with h; simp only [Prod.mk.injEq] at h; obtain ⟨rfl, rfl, rfl, rfl⟩ := h
    exact upC _ _ _ _ _ _ _ h1
   ·cases h
  case loop x =>
   split at h
   ·rename_i e1 T1 s1 h1
    injection h with h; simp only [Prod.mk.injEq] at h; obtain ⟨rfl, rfl, rfl, rfl⟩ := h
    exact upC _ _ _ _ _ _ _ h1
   ·cases h
  all_goals cases h
theorem ZW (F : Fit P ext) {nt : Nat} : ∀ (fu : Nat) (c : Code) (T : Tr Value) (s : St) (m : Bool) (e : Ex) (T' : Tr Value) (s' : St) (m' : Bool), evR P ext nt fu c T s m = some (e, T', s', m') → (∀ p ∈ s'.ob, p.1 = p.2) →
  ∀ b ι D a w, b ≤ w.heap.size → TR ι nt D T a → Mk b m D ι w → Emb P ι s.h.get w → Fresh ι s.n s'.n → c.wpIn (Fr none) 0 P (Zcy b P ι s w nt e T' s' m') a w
 | 0, _, _, _, _, _, _, _, _, h => by simp [evR] at h
 | fu + 1, c, T, s, m, e, T', s', m', h => by
  intro ho b ι D a w hbw hT hM he hf
  have code : ∀ {c : Code} {e1 : Ex} {T1 : Tr Value} {s1 : St}, Zf P ext nt (fu + 1) c T s = some (e1, T1, s1) → (∀ p ∈ s1.ob, p.1 = p.2) → Fresh ι s.n s1.n → c.wpIn (Fr none) 0 P (Zcy b P ι s w nt e1 T1 s1 m) a w := fun h1 ho1 hf1 => by
   refine (wpIn_wide (n := 0)).2 (wp_mono ((ZM F (fu + 1)).1 nt _ T s _ _ _ h1 ho1 ι D a w hT he hf1) ?_)
   rintro ex a1 w1 ⟨rfl, ι1, g1, g2, g3⟩
   exact ⟨rfl, ι1, D, g1, g2, g3, hM.step g1⟩
  have two : ∀ {ι1 : Ren} {s1 : St} {w1 : World}, Step P ι s.h.get w ι1 s1.h.get w1 → Dom ι ι1 s.n s1.n → s.n ≤ s1.n → s1.n ≤ s'.n → ∀ ex a W, Zcy b P ι1 s1 w1 nt e T' s' m' ex a W → Zcy b P ι s w nt e T' s' m' ex a W :=
   fun hS hd h1 h2 ex a W ⟨hx, ι', D', k1, k2, k3, k4⟩ => ⟨hx, ι', D', hS.trans k1, hd.trans k2 h1 h2, k3, k4⟩
  cases c <;> simp only [evR] at h
  case skip => injection h with h; simp only [Prod.mk.injEq] at h; obtain ⟨rfl, rfl, rfl, rfl⟩ := h; exact wpIn_skip ⟨rfl, ι, D, Step.refl he, Dom.refl, hT, hM⟩
  case ret => injection h with h; simp only [Prod.mk.injEq] at h; obtain ⟨rfl, rfl, rfl, rfl⟩ := h; exact wpIn_ret ⟨rfl, ι, D, Step.refl he, Dom.refl, hT, hM⟩
  case exit id => injection h with h; simp only [Prod.mk.injEq] at h; obtain ⟨rfl, rfl, rfl, rfl⟩ := h; exact wpIn_exit ⟨rfl, ι, D, Step.refl he, Dom.refl, hT, hM⟩
  case seq x y =>
   split at h
   ·rename_i T1 s1 m1 h1
    have u1 := ZaO F fu _ _ _ _ _ _ _ _ h1
    have u2 := ZaO F fu _ _ _ _ _ _ _ _ h
    refine wpIn_seq (wpIn_mono (ZW F fu x T s m .normal T1 s1 m1 h1 (Zm u2.ob ho) b ι D a w hbw hT hM he (hf.mono (Nat.le_refl _) u2.n)) ?_)
    rintro ex a1 w1 ⟨rfl, ι1, D1, g1, g2, g3, g4⟩
    exact wpIn_mono (ZW F fu y T1 s1 m1 e T' s' m' h ho b ι1 D1 a1 w1 (Nat.le_trans hbw g1.size) g3 g4 g1.emb (hf.after g2 u1.n)) (two g1 g2 u1.n u2.n)
   ·rename_i i r h1
    injection h with h; simp only [Prod.mk.injEq] at h; obtain ⟨rfl, rfl⟩ := h
    refine wpIn_seq (wpIn_mono (ZW F fu x T s m _ _ _ _ h1 ho b ι D a w hbw hT hM he hf) ?_)
    rintro ex a1 w1 ⟨rfl, hq⟩
    exact ⟨rfl, hq⟩
   ·rename_i r h1
    injection h with h; simp only [Prod.mk.injEq] at h; obtain ⟨rfl, rfl⟩ := h
    refine wpIn_seq (wpIn_mono (ZW F fu x T s m _ _ _ _ h1 ho b ι D a w hbw hT hM he hf) ?_)
    rintro ex a1 w1 ⟨rfl, hq⟩
    exact ⟨rfl, hq⟩
   ·cases h
  case cond x y z =>
   split at h
   ·rename_i t ht
    have hx : a.eval x = .bool t := Zar ((ht ▸ hT.opnd x : VR ι (.bool t) (Zv a x)).bool_inv)
    split at h
    ·exact wpIn_cond_true hx (ZW F fu y T s m e T' s' m' h ho b ι D a w hbw hT hM he hf)
    ·exact wpIn_cond_false hx (ZW F fu z T s m e T' s' m' h ho b ι D a w hbw hT hM he hf)
   ·cases h
  case block id x =>
   split at h
   ·rename_i i r h1
    cases hb : Nat.beq i id with
    | true =>
     rw [hb] at h
     injection h with h; simp only [Prod.mk.injEq] at h; obtain ⟨rfl, rfl⟩ := h
     refine wpIn_block (wpIn_mono (ZW F fu x T s m _ _ _ _ h1 ho b ι D a w hbw hT hM he hf) ?_)
     rintro ex a1 w1 ⟨rfl, hq⟩
     show if i = id then _ else _
     rw [if_pos (Nat.eq_of_beq_eq_true hb)]
     exact ⟨rfl, hq⟩
    | false =>
     rw [hb] at h
     injection h with h; simp only [Prod.mk.injEq] at h; obtain ⟨rfl, rfl⟩ := h
     refine wpIn_block (wpIn_mono (ZW F fu x T s m _ _ _ _ h1 ho b ι D a w hbw hT hM he hf) ?_)
     rintro ex a1 w1 ⟨rfl, hq⟩
     show if i = id then _ else _
     rw [if_neg (fun e => by rw [ZbC e] at hb; cases hb)]
     exact ⟨rfl, hq⟩
   ·rename_i r h1
    injection h with h; simp only [Prod.mk.injEq] at h; obtain ⟨rfl, rfl⟩ := h
    refine wpIn_block (wpIn_mono (ZW F fu x T s m _ _ _ _ h1 ho b ι D a w hbw hT hM he hf) ?_)
    rintro ex a1 w1 ⟨rfl, hq⟩
    exact ⟨rfl, hq⟩
   ·rename_i r h1
    injection h with h; simp only [Prod.mk.injEq] at h; obtain ⟨rfl, rfl⟩ := h
    refine wpIn_block (wpIn_mono (ZW F fu x T s m _ _ _ _ h1 ho b ι D a w hbw hT hM he hf) ?_)
    rintro ex a1 w1 ⟨rfl, hq⟩
    exact ⟨rfl, hq⟩
   ·cases h
  case rangeFunc g ps asg body =>
   obtain ⟨hm, h⟩ := Zct h
   split at h
   ·rename_i e1 s1 h1
    injection h with h; simp only [Prod.mk.injEq] at h; obtain ⟨rfl, rfl, rfl, rfl⟩ := h
    subst hm
    obtain rfl : D = [] := hM
    exact ZgT F h1 ho hbw hT he hf
   ·cases h
  case region id ops draw =>
   split at h
   ·rename_i e1 T1 s1 h1
    injection h with h; simp only [Prod.mk.injEq] at h; obtain ⟨rfl, rfl, rfl, rfl⟩ := h
    exact code h1 ho hf
   ·cases h
  case loop x =>
   split at h
   ·rename_i e1 T1 s1 h1
    injection h with h; simp only [Prod.mk.injEq] at h; obtain ⟨rfl, rfl, rfl, rfl⟩ := h
    exact code h1 ho hf
   ·cases h
  all_goals cases h
theorem Zcz (F : Fit P ext) {fu : Nat} {f : FuncId} {fn : Func} {c : Code} (hfn : P.funcs[f]? = some fn) (hb : fn.body = some c) : ZdI P f (Zbw P ext fu f) := by
 refine ⟨⟨fn, c, hfn, hb⟩, fun args s v s' h => ?_, fun args s v s' h ho ι w args' ha he hf => ?_⟩
 ·unfold Zbw at h
  rw [hfn] at h
  simp only [hb] at h
  replace h := (Zb h).2
  split at h
  ·cases h
  ·rename_i h1
   have u := ZaO F fu _ _ _ _ _ _ _ _ h1
   split at h
   ·injection h with h; injection h with q1 q2; subst q2; exact u
   ·injection h with h; injection h with q1 q2; subst q2; exact u
   ·cases h
  ·cases h
 ·unfold Zbw at h
  rw [hfn] at h
  simp only [hb] at h
  obtain ⟨hsz, h⟩ := Zb h
  have hle : args.size ≤ fn.ntmps := Nat.le_of_ble_eq_true hsz
  split at h
  ·cases h
  ·rename_i ex T1 s1 m1 hne h1
   have hs : s' = s1 ∧ (match Zp P T1 s1 fn.results.toList with | some [v] => some v | some vs => some (.tuple vs.toArray) | none => none) = some v := by
    split at h
    ·rename_i hr; injection h with h; injection h with q1 q2; subst q1 q2; exact ⟨rfl, by first | rw [hr] | rfl⟩
    ·rename_i vs hn hr; injection h with h; injection h with q1 q2; subst q1 q2
     refine ⟨rfl, ?_⟩
     try rw [hr]
     rcases vs with _ | ⟨x, _ | ⟨y, vs⟩⟩
     ·rfl
     ·exact absurd rfl (hn x)
     ·rfl
    ·cases h
   obtain ⟨rfl, hres⟩ := hs
   refine (callsIn_wide (n := 0)).1 (callsIn_of_wp_marks hfn hb trivial (wpIn_mono (ZW F fu c _ s false ex T1 s' m1 h1 ho w.heap.size ι [] _ w (Nat.le_refl _) (Zch ha hle) rfl he hf) ?_))
   rintro e2 a2 w2 ⟨rfl, ι2, D2, g1, g2, g3, g4⟩
   have fin : LeavesInM (Fr none) 0 P fn a2.tmps (ZcX P ι s w v s') a2.defers .returning w2 := by
    rw [g3.2.1]
    cases m1 with
    | false =>
     obtain rfl : D2 = [] := g4
     obtain ⟨v', hrun, hv⟩ := ZR g3 g1.emb hres
     exact ⟨v', hrun, v', ι2, rfl, g1, g2, hv⟩
    | true =>
     obtain ⟨K, hKw, rfl, hk, hn⟩ := g4
     have g1' := g1.put hKw hn (.deferred none)
     obtain ⟨v', hrun, hv⟩ := ZR g3 g1'.emb hres
     exact ⟨by simp, .inl ⟨K, _, rfl, run_takeDeferred hk, v', hrun, v', ι2, rfl, g1', g2, hv⟩⟩
   cases ex with
   | normal => exact fin
   | ret => exact fin
   | exit i => exact (hne i rfl).elim
  ·cases h
end
end Ev
end Go.Proofs.YtldlnclkdgfahaaGreat
/- The runner over this program. -/
namespace Go.Proofs.YtldlnclkdgfahaaGreat
open Go.RowKit
namespace Ev

def Zgc : FuncId → Option Ext := fun f =>
   none

theorem noGo : (Tryz.prog.funcs.toList.all fun fn => !(fn.name == "runtime.NumGoroutine")) = true := by kernel_rfl
theorem mixed : Tryz.prog.follows .mixedOrders = true := by kernel_rfl
def ZdO (sp : FuncId → Option (List Value → Option Value)) (hp : FuncId → Option (Array Value → St → Out)) : FuncId → Option Ext := fun f => match Zgc f with
  | some e => some e
  | none => match sp f with
    | some g => some (.fn g)
    | none => match hp f with
      | some g => some (.hp g)
      | none => none
def noHp : FuncId → Option (Array Value → St → Out) := fun _ => none
def extW (sp : FuncId → Option (List Value → Option Value)) : FuncId → Option Ext := ZdO sp noHp
def Zes (sp : FuncId → Option (List Value → Option Value)) : Prop := ∀ (f : Nat) (g : List Value → Option Value), sp f = some g → (∃ (fn : Func) (c : Code), Tryz.prog.funcs[f]? = some fn ∧ fn.body = some c) ∧
  ∀ (args : Array Value) (v : Value), Ze ZF args.toList = true → g args.toList = some v → ∀ w, Calls Tryz.prog f args w fun e w' => e = .returned v ∧ Below w.heap.size w w'
def ZdA (hp : FuncId → Option (Array Value → St → Out)) : Prop := ∀ (f : Nat) (g : Array Value → St → Out), hp f = some g → ZdI Tryz.prog f g
theorem ZgU : ZdA noHp := fun f g h => by cases h
theorem Zn {b : Bool} {x e : Ext} {y : Option Ext} (h : (bif b then some x else y) = some e) : (b = true ∧ x = e) ∨ y = some e := by
  cases b with
  | true => exact .inl ⟨rfl, by simpa using h⟩
  | false => exact .inr (by simpa using h)
theorem Zck {f : Nat} {e : Ext} (he : Zgc f = some e) : (∀ (kk : IntKind) (c : Nat), e = .at kk c → ∃ fn : Func, Tryz.prog.funcs[f]? = some fn ∧ fn.body.isNone = true ∧ Extern.findNext fn = none ∧
    (c = 0 ∧ Extern.find fn = some (Extern.Atomic.loadT (.int kk)) ∨ c = 1 ∧ Extern.find fn = some Extern.Atomic.storeT ∨
     c = 2 ∧ Extern.find fn = some (Extern.Atomic.update (Op.intArith .add) kk true) ∨ c = 3 ∧ Extern.find fn = some (Extern.Atomic.casT (.int kk)))) ∧
    (∀ n : Nat, e = .mark n → ∃ fn : Func, Tryz.prog.funcs[f]? = some fn ∧ fn.body.isNone = true ∧ Extern.findNext fn = none ∧
    (n = 0 ∧ (∃ m : Mark, Extern.find fn = some (fun _ => do mark m; pure Extern.Race.none_)) ∨ n = 1 ∧ ∃ m : Addr → Mark, Extern.find fn = some (Extern.Race.marked m))) ∧ (∀ g, e ≠ .fn g) ∧ (∀ g, e ≠ .hp g) ∧ (∀ S, e ≠ .tc S) := by
  unfold Zgc at he
  cases he
theorem ZaI {sp : FuncId → Option (List Value → Option Value)} {hp : FuncId → Option (Array Value → St → Out)} {f : Nat} {e : Ext} (h : ZdO sp hp f = some e) : Zgc f = some e ∨ (∃ g, sp f = some g ∧ e = .fn g) ∨ ∃ g, hp f = some g ∧ e = .hp g := by
  unfold ZdO at h
  split at h
  · rename_i e' he'
    injection h with h; subst h
    exact .inl he'
  · split at h
    · rename_i g hg
      injection h with h; subst h
      exact .inr (.inl ⟨g, hg, rfl⟩)
    · split at h
      · rename_i g hg
        injection h with h; subst h
        exact .inr (.inr ⟨g, hg, rfl⟩)
      · cases h
theorem ZgV {sp : FuncId → Option (List Value → Option Value)} {hp : FuncId → Option (Array Value → St → Out)} (hsp : Zes sp) (hhp : ZdA hp) : Fit Tryz.prog (ZdO sp hp) := by
  refine ⟨mixed, fun f fn hf => ?_, fun f g hg => ?_, fun f g hg => ?_, fun f S hS => ?_, fun f n hn => ?_, fun f kk e he => ?_⟩
  · have := List.all_eq_true.1 noGo fn (by
      obtain ⟨h, rfl⟩ := Array.getElem?_eq_some_iff.1 hf
      simp)
    simpa using this
  · rcases ZaI hg with h | ⟨g', h, hx⟩ | ⟨g', h, hx⟩
    · exact ((Zck h).2.2.1 g rfl).elim
    · injection hx with hx; subst hx; exact hsp f g h
    · cases hx
  · rcases ZaI hg with h | ⟨g', h, hx⟩ | ⟨g', h, hx⟩
    · exact ((Zck h).2.2.2.1 g rfl).elim
    · cases hx
    · injection hx with hx; subst hx; exact hhp f g h
  · rcases ZaI hS with h | ⟨g', h, hx⟩ | ⟨g', h, hx⟩
    · exact ((Zck h).2.2.2.2 S rfl).elim
    · cases hx
    · cases hx
  · rcases ZaI hn with h | ⟨g', h, hx⟩ | ⟨g', h, hx⟩
    · exact (Zck h).2.1 n rfl
    · cases hx
    · cases hx
  · rcases ZaI he with h | ⟨g', h, hx⟩ | ⟨g', h, hx⟩
    · exact (Zck h).1 kk e rfl
    · cases hx
    · cases hx
theorem fitW {sp : FuncId → Option (List Value → Option Value)} (hsp : Zes sp) : Fit Tryz.prog (extW sp) := ZgV hsp ZgU
def Zgd : FuncId → Option (List Value → Option Value) := fun _ => none
theorem ZdP : Zes Zgd := fun f g h => by cases h
def ext1 : FuncId → Option Ext := extW Zgd
theorem fit1 : Fit Tryz.prog ext1 := fitW ZdP
noncomputable def hp0 : FuncId → Option (Array Value → St → Out) := fun f =>
   none
theorem Zg8 : ZdA hp0 := by
  intro f g h
  unfold hp0 at h
  cases h
noncomputable def Zge : FuncId → Option Ext := ZdO Zgd hp0
theorem ZgW : Fit Tryz.prog Zge := ZgV ZdP Zg8
noncomputable def hp1 : FuncId → Option (Array Value → St → Out) := fun f =>
   hp0 f
theorem Zgf {β : Type} {b : Bool} {x e : β} {y : Option β} (h : (bif b then some x else y) = some e) : (b = true ∧ x = e) ∨ y = some e := by
  cases b with
  | true => injection h with h; exact .inl ⟨rfl, h⟩
  | false => exact .inr h
theorem Zhz : ZdA hp1 := by
  intro f g h
  unfold hp1 at h
  exact Zg8 f g h
noncomputable def extS (sp : FuncId → Option (List Value → Option Value)) : FuncId → Option Ext := ZdO sp hp1
theorem fitS {sp : FuncId → Option (List Value → Option Value)} (hsp : Zes sp) : Fit Tryz.prog (extS sp) := ZgV hsp Zhz
noncomputable def ext : FuncId → Option Ext := extS Zgd
theorem fit : Fit Tryz.prog ext := fitS ZdP
def out (r : Out) : Option Value := match r with
  | some (v, s) => match s.ob with
    | [] => bif ZF v && Nat.ble s.n 1000000000 then some v else none
    | _ => none
  | none => none
def Zgg (r : Out) : Option (Value × List (Bool × Bool)) := match r with
  | some (v, s) => bif ZF v && Nat.ble s.n 1000000000 then some (v, s.ob) else none
  | none => none
theorem Zf8 (fu : Nat) {f : FuncId} {args args' : Array Value} {v : Value} {orc : Orc} {ob : List (Bool × Bool)} (w : World) (h : Zgg (ZA Tryz.prog ext fu f args ⟨.nil, 0, [], orc, []⟩) = some (v, ob)) (ho : ∀ p ∈ ob, p.1 = p.2) (ha : VRs (fun _ => none) args args') : Calls Tryz.prog f args' w (Ret v w) := by
  unfold Zgg at h
  split at h
  · rename_i u s hr
    obtain ⟨hf, h⟩ := Zb h
    injection h with h
    injection h with h1 h2
    subst h1 h2
    exact (Zhx fit hr ho ha (Bool.and_eq_true_iff.1 hf).1 (Nat.le_of_ble_eq_true (Bool.and_eq_true_iff.1 hf).2) w).mono fun e w' ⟨h1, h2⟩ => ⟨h1, h2⟩
  · cases h
end Ev
end Go.Proofs.YtldlnclkdgfahaaGreat
/- Arguments that hold no address: which cells they have. -/
namespace Go.Proofs.YtldlnclkdgfahaaGreat
open Go.ChangeShapes Go.WideShapes Go.ChangeAt Go.RowKit
namespace Ev
section
variable {P : Program} {w : World} {r : Reach} {base : Nat}
theorem ZcP {t : TypeId} {ts : List TypeId} {v : Value} (hu : (match P.underlying t with | some (.struct _) | some (.array _ _) => true | _ => false) = true) (hts : P.cellTypes P.depth t = some ts) (hn : P.cellsOf t = ts.length) (h : Value.okWide P w r base t v) :
  ∃ cs : List Value, v = .agg cs.toArray ∧ cs.length = ts.length ∧ ∀ (i : Nat) u c, ts[i]? = some u → cs[i]? = some c → Cell.okWide P w r base u c := by
 unfold Value.okWide at h
 have key : (∃ cs, v = .agg cs ∧ cs.size = P.cellsOf t ∧ Row.okWide P w r base t cs) → ∃ cs : List Value, v = .agg cs.toArray ∧ cs.length = ts.length ∧ ∀ (i : Nat) u c, ts[i]? = some u → cs[i]? = some c → Cell.okWide P w r base u c := by
  rintro ⟨cs, rfl, hs, ts', h1, _, h3⟩
  rw [hts] at h1
  injection h1 with h1
  subst h1
  refine ⟨cs.toList, by simp, by simpa [hn] using hs, fun i u c hi hc => ?_⟩
  obtain ⟨u', hu', hok⟩ := h3 i c (by simpa using hc)
  have hlt : i < ts.length := (List.getElem?_eq_some_iff.1 hi).1
  rw [Nat.mod_eq_of_lt hlt, hi] at hu'
  injection hu' with hu'
  subst hu'
  exact hok
 split at h
 ·exact key h
 ·exact key h
 ·rename_i h1 h2
  exfalso
  revert hu
  cases hd : P.underlying t with
  | none => simp
  | some d => cases d <;> simp_all
theorem Z4 {u : TypeId} {k : IntKind} {c : Value} (hu : P.underlying u = some (.int k)) (h : Cell.okWide P w r base u c) : ∃ n, c = .int k n ∧ k.has n := by
 unfold Cell.okWide Cell.ok at h
 rw [hu] at h
 cases c <;> simp at h
 obtain ⟨rfl, h⟩ := h
 exact ⟨_, rfl, h⟩
theorem Zgh {t : TypeId} {v : Value} (hu : (match P.underlying t with | some (.struct _) | some (.array _ _) => true | _ => false) = false) (h : Value.okWide P w r base t v) : Cell.okWide P w r base t v := by
 unfold Value.okWide at h
 split at h
 ·rename_i h1; rw [h1] at hu; cases hu
 ·rename_i h1; rw [h1] at hu; cases hu
 ·exact h
def ZgZ : Nat → List (Nat × Bool) → List (Option Bool)
 | _, [] => []
 | n, (i, b) :: l => List.replicate (i - n) none ++ (some b :: ZgZ (i + 1) l)
def Zha : Nat → List (Nat × Int) → List (Option Int)
 | _, [] => []
 | n, (i, b) :: l => List.replicate (i - n) none ++ (some b :: Zha (i + 1) l)
def Zet {α : Type} : Nat → List (Nat × α) → List (Option α)
 | _, [] => []
 | n, (i, b) :: l => List.replicate (i - n) none ++ (some b :: Zet (i + 1) l)
def ZgX (b : List (Nat × Bool)) (v : List (Nat × Int)) (x : List (Nat × Nat)) (l : List (Nat × List Cell)) (w : List (Nat × Zex)) : Orc := ⟨ZgZ 0 b, Zha 0 v, Zet 0 x, Zet 0 l, Zet 0 w⟩
theorem ZdQ : ∀ p ∈ ([] : List (Bool × Bool)), p.1 = p.2 := by simp
theorem Z8 {a b : Bool} {l : List (Bool × Bool)} (h : a = b) (hl : ∀ q ∈ l, q.1 = q.2) : ∀ q ∈ (a, b) :: l, q.1 = q.2 := by
 intro q hq
 rcases List.mem_cons.1 hq with rfl | hq
 ·exact h
 ·exact hl q hq
theorem Zh0 {x : Int} (h : -9223372036854775808 ≤ x ∧ x < 9223372036854775808) : IntKind.i64.wrap x = x := by
 rw [IntKind.wrap_i64]
 omega
theorem Zh1 {b : Int} (h : 0 ≤ b) : b = Int.ofNat b.toNat := (Int.toNat_of_nonneg h).symm
theorem Zg9 {n m : Nat} (h : n < m) : Nat.blt n m = true := Nat.ble_eq_true_of_le h
end
end Ev
end Go.Proofs.YtldlnclkdgfahaaGreat
