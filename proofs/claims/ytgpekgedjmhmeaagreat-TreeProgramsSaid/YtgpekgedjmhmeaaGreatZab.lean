/- Part 2. -/
import Derived.Test.YtgpekgedjmhmeaaGreatZaa
import Derived.Orders
import Derived.LoopN
import Derived.Scope
import Derived.Defers
import Derived.Test.YtgpekgedjmhmeaaGreatRows
import Derived.WalkKit
import Derived.WalkLawsBesides
import Derived.WalkSpells
import Derived.ProofKit
import Derived.OpenShut
import Derived.Outline
import Derived.BigQuiet
import Derived.BigGuardPart
import Derived.Lib.Hide
import Derived.Lib.SmallJoins
import Derived.SizedLaws
import Derived.Deep.Slices
import Derived.Deep.Fields
import Derived.Carry
import Derived.RangeFuncLeaves
import Derived.OrdersIn
import Derived.LoopNIn
import Derived.TacticsIn
import Derived.RangeFuncRecord
/- The runner against the model: code and calls. -/
namespace Go.Proofs.YtgpekgedjmhmeaaGreat
open Go.RowKit
namespace Ev

/-! ### Numbers rise, and answers stay -/
theorem ZaY {a b : List (Bool × Bool)} (h : a <:+ b) (hb : ∀ p ∈ b, p.1 = p.2) : ∀ p ∈ a, p.1 = p.2 := fun p hp => hb p (h.subset hp)
structure Up (s s' : St) : Prop where
 n : s.n ≤ s'.n
 ob : s.ob <:+ s'.ob
 log : ∃ l, s'.wr = l ++ s.wr ∧ ∀ k, k ∉ l → ¬ (s.n ≤ k ∧ k < s'.n) → s'.h.get k = s.h.get k
theorem Up.refl (s : St) : Up s s := ⟨Nat.le_refl _, List.suffix_refl _, [], rfl, fun _ _ _ => rfl⟩
theorem Up.trans {a b c : St} (h : Up a b) (k : Up b c) : Up a c := by
 obtain ⟨l, h1, h2⟩ := h.log
 obtain ⟨m, k1, k2⟩ := k.log
 refine ⟨Nat.le_trans h.n k.n, h.ob.trans k.ob, m ++ l, by rw [k1, h1, List.append_assoc], fun j hj hn => ?_⟩
 have := h.n
 have := k.n
 rw [k2 j (fun e => hj (List.mem_append_left _ e)) (by omega), h2 j (fun e => hj (List.mem_append_right _ e)) (by omega)]
theorem Zkc {s s1 : St} {t b : Bool} (h : s.tst t = (b, s1)) : Up s s1 := by
 unfold St.tst at h
 split at h <;> (injection h with h1 h2; subst h1 h2)
 ·exact Up.refl _
 ·exact ⟨Nat.le_refl _, List.suffix_refl _, [], rfl, fun _ _ _ => rfl⟩
 ·exact ⟨Nat.le_refl _, List.suffix_cons _ _, [], rfl, fun _ _ _ => rfl⟩
theorem Z0h {s s1 : St} {x y : Int} (h : s.vst x = (y, s1)) : Up s s1 := by
 unfold St.vst at h
 split at h <;> (injection h with h1 h2; subst h1 h2)
 ·exact Up.refl _
 ·exact ⟨Nat.le_refl _, List.suffix_refl _, [], rfl, fun _ _ _ => rfl⟩
 ·exact ⟨Nat.le_refl _, List.suffix_cons _ _, [], rfl, fun _ _ _ => rfl⟩
theorem ZbV {s s1 : St} {k o : Nat} {l : List Value} (h : Zdg s k o l = some s1) : Up s s1 := by
 unfold Zdg at h
 split at h
 ·replace h := Zo h
  obtain ⟨_, h⟩ := h
  injection h with h
  subst h
  refine ⟨Nat.le_refl _, List.suffix_refl _, [k], rfl, fun j hj _ => ?_⟩
  show (s.h.set k _).get j = _
  rw [Tr.get_set, Zn (by simpa using hj)]
 ·cases h
section
variable {P : Program} {ρ : Operand → Value} {s s' : St} {v : Value}
theorem ZaG {o : Oper} (h : Zf7 P ρ o s = some (v, s')) : Up s s' := by
 unfold Zf7 at h
 replace h := (Zo h).2
 split at h
 ·replace h := (Zo h).2
  injection h with h; injection h with h1 h2; subst h1 h2; exact Up.refl _
 ·cases h
theorem up_add {c : List Value} {t : TypeId} : Up s (s.add c t) := ⟨Nat.le_succ _, List.suffix_refl _, [], rfl, fun j _ hn => by
 show (s.h.set s.n _).get j = _
 rw [Tr.get_set, Zn (fun e => hn ⟨by omega, by show j < s.n + 1; omega⟩)]⟩
theorem up_turn {k : Nat} {c : List Value} {t : TypeId} : Up s (s.turn k c t) := ⟨Nat.le_succ _, List.suffix_refl _, [k], rfl, fun j hj hn => by
 show ((s.h.set k none).set s.n _).get j = _
 rw [Tr.get_set, Zn (fun e => hn ⟨by omega, by show j < s.n + 1; omega⟩), Tr.get_set, Zn (by simpa using hj)]⟩
theorem ZyB {t tx : TypeId} {x y : Value} (h : ZdO P s t tx x y = some (v, s')) : Up s s' := by
 unfold ZdO at h
 try simp only [cond_eq_ite] at h
 repeat' (split at h)
 all_goals first
  | (cases h; done)
  | (injection h with h; injection h with h1 h2; subst h1 h2; first | exact Up.refl _ | exact up_add | exact up_turn | exact ZbV (by assumption))
  | exact ZaG h
theorem ZvT {t n : Nat} {ps : Array (Nat × Operand)} (h : Zhf P ρ t n ps s = some (v, s')) : Up s s' := by
 unfold Zhf at h
 try simp only [cond_eq_ite] at h
 repeat' (split at h)
 all_goals first
  | (cases h; done)
  | (injection h with h; injection h with h1 h2; subst h1 h2; first | exact Up.refl _ | exact up_add | exact up_turn | exact ZbV (by assumption))
  | exact ZaG h
theorem Zzp {t : Nat} {ps : Array (Nat × Operand)} (h : Zpp P ρ t ps s = some (v, s')) : Up s s' := by
 unfold Zpp at h
 try simp only [cond_eq_ite] at h
 repeat' (split at h)
 all_goals first
  | (cases h; done)
  | (injection h with h; injection h with h1 h2; subst h1 h2; first | exact Up.refl _ | exact up_add | exact up_turn | exact ZbV (by assumption))
  | exact ZaG h
theorem Zzq {t : Nat} {a x : Operand} (h : ZjE P ρ t a x s = some (v, s')) : Up s s' := by
 unfold ZjE at h
 try simp only [cond_eq_ite] at h
 repeat' (split at h)
 all_goals first
  | (cases h; done)
  | (injection h with h; injection h with h1 h2; subst h1 h2; first | exact Up.refl _ | exact up_add | exact up_turn | exact ZbV (by assumption))
  | exact ZaG h
theorem Zwz {t f : Nat} {x : Operand} (h : ZhG P ρ t x f s = some (v, s')) : Up s s' := by
 unfold ZhG at h
 try simp only [cond_eq_ite] at h
 repeat' (split at h)
 all_goals first
  | (cases h; done)
  | (injection h with h; injection h with h1 h2; subst h1 h2; first | exact Up.refl _ | exact up_add | exact up_turn | exact ZbV (by assumption))
  | exact ZaG h
theorem Zzr {t f : Nat} {x : Operand} (h : Zpr P ρ t x f s = some (v, s')) : Up s s' := by
 unfold Zpr at h
 try simp only [cond_eq_ite] at h
 repeat' (split at h)
 all_goals first
  | (cases h; done)
  | (injection h with h; injection h with h1 h2; subst h1 h2; first | exact Up.refl _ | exact up_add | exact up_turn | exact ZbV (by assumption))
  | exact ZaG h
theorem Zzs {t : Nat} {x ix : Operand} (h : Zps P ρ t x ix s = some (v, s')) : Up s s' := by
 unfold Zps at h
 try simp only [cond_eq_ite] at h
 repeat' (split at h)
 all_goals first
  | (cases h; done)
  | (injection h with h; injection h with h1 h2; subst h1 h2; first | exact Up.refl _ | exact up_add | exact up_turn | exact ZbV (by assumption))
  | exact ZaG h
theorem ZrV {t : Nat} {x ix : Operand} (h : ZfO P ρ t x ix s = some (v, s')) : Up s s' := by
 unfold ZfO at h
 try simp only [cond_eq_ite] at h
 repeat' (split at h)
 all_goals first
  | (cases h; done)
  | (injection h with h; injection h with h1 h2; subst h1 h2; first | exact Up.refl _ | exact up_add | exact up_turn | exact ZbV (by assumption))
  | exact ZaG h
theorem ZtJ {t : Nat} {x : Operand} {lo hi : Option Operand} (h : ZgC P ρ t x lo hi s = some (v, s')) : Up s s' := by
 unfold ZgC at h
 try simp only [cond_eq_ite] at h
 repeat' (split at h)
 all_goals first
  | (cases h; done)
  | (injection h with h; injection h with h1 h2; subst h1 h2; first | exact Up.refl _ | exact up_add | exact up_turn | exact ZbV (by assumption))
  | exact ZaG h
theorem Zw0 {t : Nat} {l c : Operand} (h : ZfP P ρ t l c s = some (v, s')) : Up s s' := by
 unfold ZfP at h
 try simp only [cond_eq_ite] at h
 repeat' (split at h)
 all_goals first
  | (cases h; done)
  | (injection h with h; injection h with h1 h2; subst h1 h2; first | exact Up.refl _ | exact up_add | exact up_turn | exact ZbV (by assumption))
  | exact ZaG h
theorem ZuT {a b : TypeId} {x : Operand} (h : Zix P ρ a b x s = some (v, s')) : Up s s' := by
 unfold Zix at h
 try simp only [cond_eq_ite] at h
 repeat' (split at h)
 all_goals first
  | (cases h; done)
  | (injection h with h; injection h with h1 h2; subst h1 h2; first | exact Up.refl _ | exact up_add | exact up_turn | exact ZbV (by assumption))
  | exact ZaG h
theorem Zw1 {o : Oper} {op : BinOp} {t : TypeId} {x y : Operand} (h : ZjR P ρ o op t x y s = some (v, s')) : Up s s' := by
 unfold ZjR at h
 split at h
 ·injection h with h; injection h with h1 h2; subst h1 h2; exact Up.refl _
 ·injection h with h; injection h with h1 h2; subst h1 h2; exact Up.refl _
 split at h
 ·rename_i r hr
  injection h with h; subst h
  exact ZaG hr
 ·split at h <;> first | (cases h; done) | (injection h with h; injection h with h1 h2; subst h1 h2; exact Up.refl _)
theorem Zaj {s s1 : St} {a : Option Zx} (h : s.nextW = (a, s1)) : Up s s1 := by
 unfold St.nextW at h
 split at h <;> (injection h with h1 h2; subst h1 h2; exact ⟨Nat.le_refl _, List.suffix_refl _, [], rfl, fun _ _ _ => rfl⟩)
theorem Zax (q : Bool) : Up s (s.told q) := ⟨Nat.le_refl _, List.suffix_cons _ _, [], rfl, fun _ _ _ => rfl⟩
theorem up_putK {k : Nat} {c : List Value} {t : TypeId} : Up s (s.putK k c t) := ⟨Nat.le_refl _, List.suffix_refl _, [k], rfl, fun j hj _ => by
 show (s.h.set k _).get j = _
 rw [Tr.get_set, Zn (by simpa using hj)]⟩
theorem ZyC {t : Nat} {a x : Operand} {c : List Value} (h : ZlN P ρ t a x c s = some (v, s')) : Up s s' := by
 unfold ZlN at h
 try simp only [cond_eq_ite] at h
 repeat' (split at h)
 all_goals first
  | (cases h; done)
  | (injection h with h; injection h with h1 h2; subst h1 h2; exact up_putK.trans (Zax _))
theorem ZzU {x y : Operand} (h : ZrL ρ x y s = some (v, s')) : Up s s' := by
 unfold ZrL at h
 split at h
 ·injection h with h; injection h with h1 h2; subst h1 h2; exact Zax _
 ·cases h
theorem Z0i {op : BinOp} {x y : Operand} {n : Nat} (h : ZsC ρ op x y n s = some (v, s')) : Up s s' := by
 unfold ZsC at h
 split at h
 ·injection h with h; injection h with h1 h2; subst h1 h2; exact Zax _
 ·injection h with h; injection h with h1 h2; subst h1 h2; exact Zax _
 ·cases h
theorem ZyD {x y : Operand} (h : ZuI ρ x y s = some (v, s')) : Up s s' := by
 unfold ZuI at h
 split at h
 ·injection h with h; injection h with h1 h2; subst h1 h2; exact Zax _
 ·cases h
theorem ZyE {t : Nat} {x : Operand} {lo hi : Option Operand} {l m : Nat} (h : ZlQ P ρ t x lo hi l m s = some (v, s')) : Up s s' := by
 unfold ZlQ at h
 try simp only [cond_eq_ite] at h
 repeat' (split at h)
 all_goals first
  | (cases h; done)
  | (injection h with h; injection h with h1 h2; subst h1 h2; exact ((Zax _).trans (Zax _)).trans (Zax _))
theorem Zxq {a b : TypeId} {x : Operand} {ns : List Int} (h : Zi5 P ρ a b x ns s = some (v, s')) : Up s s' := by
 unfold Zi5 at h
 repeat' (split at h)
 all_goals first
  | (cases h; done)
  | (injection h with h; injection h with h1 h2; subst h1 h2; exact Zax _)
theorem ZzV {t : Nat} {x : Operand} {lo hi : Option Operand} {m : Nat} {c : List Value} (h : ZrK P ρ t x lo hi m c s = some (v, s')) : Up s s' := by
 unfold ZrK at h
 try simp only [cond_eq_ite] at h
 repeat' (split at h)
 all_goals first
  | (cases h; done)
  | (injection h with h; injection h with h1 h2; subst h1 h2; exact ((up_turn.trans (Zax _)).trans (Zax _)).trans (Zax _))
theorem Zzt {t : Nat} {l c : Operand} {n cp : Nat} {cs : List Value} (h : Zpu P ρ t l c n cp cs s = some (v, s')) : Up s s' := by
 unfold Zpu at h
 try simp only [cond_eq_ite] at h
 repeat' (split at h)
 all_goals first
  | (cases h; done)
  | (injection h with h; injection h with h1 h2; subst h1 h2; exact ((up_add.trans (Zax _)).trans (Zax _)).trans (Zax _))
theorem ZxW {t tx : TypeId} {x y : Value} {m : Nat} {l c : List Value} (h : Zpq P s t tx x y m l c = some (v, s')) : Up s s' := by
 unfold Zpq at h
 try simp only [cond_eq_ite] at h
 repeat' (split at h)
 all_goals first
  | (cases h; done)
  | (injection h with h; injection h with h1 h2; subst h1 h2; first | exact up_add.trans (Zax _) | exact up_turn.trans (Zax _))
theorem Zxr {t tx : TypeId} {x y : Value} {m : Nat} {l c : List Value} (h : ZlO P s t tx x y m l c = some (v, s')) : Up s s' := by
 unfold ZlO at h
 try simp only [cond_eq_ite] at h
 repeat' (split at h)
 all_goals first
  | (cases h; done)
  | (injection h with h; injection h with h1 h2; subst h1 h2; exact up_putK.trans (Zax _))
theorem Zxs {t tx : TypeId} {x y : Value} (h : ZlP P s t tx x y = some (v, s')) : Up s s' := by
 unfold ZlP at h
 try simp only [cond_eq_ite] at h
 repeat' (split at h)
 all_goals first
  | (cases h; done)
  | (injection h with h; injection h with h1 h2; subst h1 h2; exact Zax _)
theorem ZxX {kk : IntKind} {e : Nat} {args : Array Value} {z : Int} {c : List Value} (h : ZjT kk e args z c s = some (v, s')) : Up s s' := by
 unfold ZjT at h
 repeat' (split at h)
 all_goals first
  | (cases h; done)
  | (injection h with h; injection h with h1 h2; subst h1 h2; first | exact Zax _ | exact up_putK.trans (Zax _) | exact ((Zax _).trans (Zkc (by assumption))) | exact (((Zax _).trans (Zkc (by assumption))).trans up_putK).trans (Zax _))
theorem ZzW {O : Obj} : Up s (s.addM O) := ⟨Nat.le_succ _, List.suffix_refl _, [], rfl, fun j _ hn => by
 show (s.h.set s.n _).get j = _
 rw [Tr.get_set, Zn (by intro e; subst e; exact hn ⟨Nat.le_refl _, Nat.lt_succ_self _⟩)]⟩
theorem up_putM {k : Nat} {O : Obj} : Up s (s.putM k O) := ⟨Nat.le_refl _, List.suffix_refl _, [k], rfl, fun j hj _ => by
 show (s.h.set k _).get j = _
 rw [Tr.get_set, Zn (by intro e; subst e; exact hj (List.mem_singleton.2 rfl))]⟩
theorem Zzu {t : TypeId} {x : Value} (h : Zpw P s t x = some (v, s')) : Up s s' := by
 unfold Zpw at h
 repeat' (split at h)
 all_goals first
  | (cases h; done)
  | (injection h with h; injection h with h1 h2; subst h1 h2; first | exact Up.refl _ | exact up_putM)
theorem ZyF {t : TypeId} {x k : Value} (h : ZlS P s t x k = some (v, s')) : Up s s' := by
 unfold ZlS at h
 repeat' (split at h)
 all_goals first
  | (cases h; done)
  | skip
 all_goals (replace h := (Zo h).2)
 all_goals first
  | (cases h; done)
  | (injection h with h; injection h with h1 h2; subst h1 h2; exact up_putM)
theorem ZxY {t : TypeId} {r : Option Operand} (h : ZjW P ρ t r s = some (v, s')) : Up s s' := by
 unfold ZjW at h
 repeat' (split at h)
 all_goals first
  | (cases h; done)
  | (injection h with h; injection h with h1 h2; subst h1 h2; exact ZzW)
theorem ZyG {t : TypeId} {x ix : Operand} {ok : Bool} (h : ZhR P ρ t x ix ok s = some (v, s')) : Up s s' := by
 unfold ZhR at h
 repeat' (split at h)
 all_goals first
  | (cases h; done)
  | skip
 all_goals (replace h := (Zo h).2)
 all_goals first
  | (cases h; done)
  | (replace h := (Zo h).2; injection h with h; injection h with h1 h2; subst h1 h2; exact Up.refl _)
theorem ZxZ {t : TypeId} {x ix : Operand} {ok : Bool} {r : Option Value} (h : ZjU P ρ t x ix ok r s = some (v, s')) : Up s s' := by
 unfold ZjU at h
 repeat' (split at h)
 all_goals first
  | (cases h; done)
  | skip
 replace h := (Zo h).2
 injection h with h; injection h with h1 h2; subst h1 h2; exact Zax _
theorem ZyH {t : TypeId} {m k x : Operand} (h : ZhS P ρ t m k x s = some (v, s')) : Up s s' := by
 unfold ZhS at h
 repeat' (split at h)
 all_goals first
  | (cases h; done)
  | skip
 all_goals (replace h := (Zo h).2)
 all_goals first
  | (cases h; done)
  | (injection h with h; injection h with h1 h2; subst h1 h2; exact up_putM)
theorem Zya {t : TypeId} {m k x : Operand} {l : List MapEntry} (h : ZjV P ρ t m k x l s = some (v, s')) : Up s s' := by
 unfold ZjV at h
 repeat' (split at h)
 all_goals first
  | (cases h; done)
  | skip
 replace h := (Zo h).2
 injection h with h; injection h with h1 h2; subst h1 h2; exact up_putM.trans (Zax _)
theorem Zyb {o : Oper} {c : Call} {b : Builtin} (h : ZjX P ρ o c b s = some (v, s')) : Up s s' := by
 unfold ZjX at h
 split at h
 ·split at h
  ·split at h
   ·exact (Zaj (by assumption)).trans (ZxW h)
   ·exact (Zaj (by assumption)).trans (Zxr h)
   ·exact (Zaj (by assumption)).trans (Zxs h)
   ·cases h
   ·exact (Zaj (by assumption)).trans (ZyB h)
  ·cases h
 ·split at h
  ·split at h
   ·injection h with h; injection h with h1 h2; subst h1 h2; exact Up.refl _
   ·split at h
    ·injection h with h; injection h with h1 h2; subst h1 h2; exact Up.refl _
    ·cases h
   ·exact ZaG h
  ·cases h
 ·split at h
  ·exact ZyF h
  ·cases h
 ·split at h
  ·exact Zzu h
  ·cases h
 ·exact ZaG h
theorem Zw2 {s s1 : St} {a : Option Nat} (h : s.nextX = (a, s1)) : Up s s1 := by
 unfold St.nextX at h
 split at h <;> (injection h with h1 h2; subst h1 h2)
 ·exact Up.refl _
 ·exact ⟨Nat.le_refl _, List.suffix_refl _, [], rfl, fun _ _ _ => rfl⟩
theorem Zw3 {s s1 : St} {a : Option (List Cell)} (h : s.nextL = (a, s1)) : Up s s1 := by
 unfold St.nextL at h
 split at h <;> (injection h with h1 h2; subst h1 h2)
 ·exact Up.refl _
 ·exact ⟨Nat.le_refl _, List.suffix_refl _, [], rfl, fun _ _ _ => rfl⟩
theorem up_told {s : St} {q : Bool} : Up s (s.told q) := ⟨Nat.le_refl _, List.suffix_cons _ _, [], rfl, fun _ _ _ => rfl⟩
theorem ZvU {t : Nat} {x ix : Operand} {i : Nat} (h : Zhg P ρ t x ix i s = some (v, s')) : Up s s' := by
 unfold Zhg at h
 repeat' (split at h)
 all_goals first
  | (cases h; done)
  | (injection h with h; injection h with h1 h2; subst h1 h2; exact up_told.trans up_told)
theorem Zzv {t : Nat} {a : Operand} {l : List Cell} (h : Zpt P ρ t a l s = some (v, s')) : Up s s' := by
 unfold Zpt at h
 repeat' (split at h)
 all_goals first
  | (cases h; done)
  | (injection h with h; injection h with h1 h2; subst h1 h2; exact up_told)
theorem ZrW {t : Nat} {x : Operand} {lo hi : Option Operand} (h : ZlR P ρ t x lo hi s = some (v, s')) : Up s s' := by
 unfold ZlR at h
 split at h
 ·split at h
  ·replace h := (Zo h).2
   split at h
   ·injection h with h; injection h with h1 h2; subst h1 h2; exact Zkc (by assumption)
   ·cases h
  ·cases h
 ·cases h
theorem Zx5 {o : Oper} {t : Nat} {x : Operand} {lo hi : Option Operand} (h : ZxK P ρ o t x lo hi s = some (v, s')) : Up s s' := by
 unfold ZxK at h
 split at h
 ·exact (Zaj (by assumption)).trans (ZyE h)
 ·exact (Zaj (by assumption)).trans (ZzV h)
 ·cases h
 ·split at h
  ·injection h with h; subst h; exact (Zaj (by assumption)).trans (ZtJ (by assumption))
  ·split at h
   ·injection h with h; subst h; exact (Zaj (by assumption)).trans (ZrW (by assumption))
   ·exact (Zaj (by assumption)).trans (ZaG h)
theorem Z0j {o : Oper} (h : ev1 P ρ o s = some (v, s')) : Up s s' := by
 unfold ev1 at h
 split at h
 all_goals first
  | exact Zx5 h | exact ZvT h | exact Zzp h | exact Zwz h | exact Zzr h | exact ZrV h | exact Zw1 h | exact ZyD h | exact ZaG h
  | (injection h with h; injection h with h1 h2; subst h1 h2; first | exact Up.refl _ | exact up_add)
  | (cases h; done)
  | skip
 ·split at h
  ·split at h <;> (injection h with h; injection h with h1 h2; subst h1 h2; exact Up.refl _)
  ·cases h
 all_goals (repeat' (split at h))
 all_goals first
  | (cases h; done)
  | exact (Zaj (by assumption)).trans (ZyC h)
  | exact (Zaj (by assumption)).trans (Zzq h)
  | exact (Zaj (by assumption)).trans (ZzU h)
  | exact (Zaj (by assumption)).trans (Z0i h)
  | exact (Zaj (by assumption)).trans (Zw1 h)
  | exact ZyD h
  | exact Zw1 h
  | exact ZxY h
  | exact (Zaj (by assumption)).trans (ZxZ h)
  | exact (Zaj (by assumption)).trans (ZyG h)
  | exact (Zaj (by assumption)).trans (Zya h)
  | exact (Zaj (by assumption)).trans (ZyH h)
  | exact Zx5 h
  | exact (Zaj (by assumption)).trans (Zzt h)
  | exact (Zaj (by assumption)).trans (Zxq h)
  | exact (Zaj (by assumption)).trans (ZuT h)
  | exact (Zaj (by assumption)).trans (Zw0 h)
  | exact (Zaj (by assumption)).trans (ZaG h)
  | (injection h with h; subst h; first | exact (Zaj (by assumption)).trans (ZtJ (by assumption)) | exact (Zaj (by assumption)).trans (ZrW (by assumption)))
  | exact (Zw3 (by assumption)).trans (Zzv h)
  | exact (Zw2 (by assumption)).trans (ZvU h)
  | exact (Zw2 (by assumption)).trans (ZrV h)
  | (injection h with h; injection h with h1 h2; subst h1 h2; exact Zw3 (by assumption))
  | exact Zyb h
  | exact ZaG h
  | (injection h with h; injection h with h1 h2; subst h1 h2; first | exact Up.refl _ | exact up_add)
  | (injection h with h; subst h; first | exact Zzs (by assumption) | exact ZtJ (by assumption) | exact ZrW (by assumption) | exact ZuT (by assumption))
theorem ZzX {n : Nat} {args : Array Value} (h : ZrM n args s = some (v, s')) : Up s s' := by
 unfold ZrM at h
 split at h
 ·injection h with h; injection h with h1 h2; subst h1 h2; exact Up.refl _
 ·injection h with h; injection h with h1 h2; subst h1 h2; exact Up.refl _
 ·cases h
theorem ZyI {kk : IntKind} {e : Nat} {args : Array Value} (h : Zfe kk e args s = some (v, s')) : Up s s' := by
 unfold Zfe at h
 repeat' (split at h)
 all_goals first
  | (cases h; done)
  | (injection h with h; injection h with h1 h2; subst h1 h2; first | exact Up.refl _ | exact ZbV (by assumption) | exact Zkc (by assumption) | exact (Zkc (by assumption)).trans (ZbV (by assumption)))
theorem Zx6 {o : Oper} {v1 : Value} {s1 : St} (h : Zwn o v s = (v1, s1)) : Up s s1 := by
 unfold Zwn at h
 split at h
 all_goals first
  | (generalize hq : s.tst _ = q at h; obtain ⟨b, s2⟩ := q; simp only [Prod.mk.injEq] at h; obtain ⟨rfl, rfl⟩ := h; exact Zkc hq)
  | (generalize hq : s.vst _ = q at h; obtain ⟨b, s2⟩ := q; simp only [Prod.mk.injEq] at h; obtain ⟨rfl, rfl⟩ := h; exact Z0h hq)
  | (simp only [Prod.mk.injEq] at h; obtain ⟨rfl, rfl⟩ := h; exact Up.refl _)
end
end Ev
end Go.Proofs.YtgpekgedjmhmeaaGreat
/- The runner against the model: code and calls. -/
namespace Go.Proofs.YtgpekgedjmhmeaaGreat
open Go.RowKit
namespace Ev

def ZsH (P : Program) (ι : Ren) (s : St) (w : World) (v : Value) (s' : St) (e : Ending) (w' : World) : Prop :=
  ∃ v' ι', e = .returned v' ∧ Step P ι s.h.get w ι' s'.h.get w' ∧ Dom ι ι' s.n s'.n ∧ VR ι' v v'
structure Zvl (P : Program) (f : FuncId) (g : Array Value → St → Out) : Prop where
  body : ∃ (fn : Func) (c : Code), P.funcs[f]? = some fn ∧ fn.body = some c
  up : ∀ args s v s', g args s = some (v, s') → Up s s'
  does : ∀ args s v s', g args s = some (v, s') → (∀ p ∈ s'.ob, p.1 = p.2) → ∀ ι w args', VRs ι args args' → Emb P ι s.h.get w → Fresh ι s.n s'.n → Calls P f args' w (ZsH P ι s w v s')
def Zj (P : Program) (f : FuncId) (args : Array Value) (pre : List (Nat × AObj)) (v : Value) (post : List (Nat × Option AObj)) (n dn : Nat) : Prop :=
  ∀ ι w args', VRs ι args args' → Emb P ι (fun k => ZaI k pre) w → Fresh ι n (n + dn) → Calls P f args' w fun e w' => ∃ v' ι', e = .returned v' ∧ Step P ι (fun k => ZaI k pre) w ι' (behind pre post) w' ∧ Dom ι ι' n (n + dn) ∧ VR ι' v v'
structure Fit (P : Program) (ext : FuncId → Option Ext) : Prop where
  mixed : P.follows .mixedOrders = true
  go : ∀ (f : Nat) (fn : Func), P.funcs[f]? = some fn → (fn.name == "runtime.NumGoroutine") = false
  fn : ∀ (f : Nat) (g : List Value → Option Value), ext f = some (.fn g) → (∃ (fn : Func) (c : Code), P.funcs[f]? = some fn ∧ fn.body = some c) ∧ ∀ (args : Array Value) (v : Value), ZS ZeP args.toList = true → g args.toList = some v → ∀ w, Calls P f args w fun e w' => e = .returned v ∧ Below w.heap.size w w'
  hp : ∀ (f : Nat) (g : Array Value → St → Out), ext f = some (.hp g) → Zvl P f g
  tc : ∀ (f : Nat) (S : Array Value → List (Nat × AObj) → Value → List (Nat × Option AObj) → Nat → Nat → Prop), ext f = some (.tc S) → (∃ (fn : Func) (c : Code), P.funcs[f]? = some fn ∧ fn.body = some c) ∧ ∀ args pre v post n dn, S args pre v post n dn → Zj P f args pre v post n dn
  mark : ∀ (f : Nat) (n : Nat), ext f = some (.mark n) → ∃ fn : Func, P.funcs[f]? = some fn ∧ fn.body.isNone = true ∧ Extern.findNext fn = none ∧
    (n = 0 ∧ (∃ m : Mark, Extern.find fn = some (fun _ => do mark m; pure Extern.Race.none_)) ∨ n = 1 ∧ ∃ m : Addr → Mark, Extern.find fn = some (Extern.Race.marked m))
  ext : ∀ (f : Nat) (kk : IntKind) (e : Nat), ext f = some (.at kk e) → ∃ fn : Func, P.funcs[f]? = some fn ∧ fn.body.isNone = true ∧ Extern.findNext fn = none ∧
    (e = 0 ∧ Extern.find fn = some (Extern.Atomic.loadT (.int kk)) ∨ e = 1 ∧ Extern.find fn = some Extern.Atomic.storeT ∨
     e = 2 ∧ Extern.find fn = some (Extern.Atomic.update (Op.intArith .add) kk true) ∨ e = 3 ∧ Extern.find fn = some (Extern.Atomic.casT (.int kk)))
section
variable {P : Program} {ext : FuncId → Option Ext}

theorem up_fn {g : List Value → Option Value} {args : Array Value} {s s' : St} {v : Value} (h : ZxL g args s = some (v, s')) : Up s s' := by
  unfold ZxL at h
  replace h := (Zo h).2
  split at h
  · replace h := (Zo h).2
    injection h with h; injection h with h1 h2; subst h1 h2; exact Up.refl _
  · cases h
theorem Zqf {α : Type} {b : Bool} {x : Option α} {y : α} (h : (bif b then none else x) = some y) : b = false ∧ x = some y := by
  cases b with
  | true => simp at h
  | false => exact ⟨rfl, by simpa using h⟩
theorem Zd8 {ops : Array Oper} {T : Tr Value} {o : Oper} {s s' : St} {b : Bool} (h : ZgD ops T o s = some (b, s')) : Up s s' := by
  unfold ZgD at h
  split at h
  · injection h with h; injection h with h1 h2; subst h1 h2; exact Up.refl _
  · split at h
    · split at h
      · injection h with h; injection h with h1 h2; subst h1 h2; exact Up.refl _
      · injection h with h; injection h with h1 h2; subst h1 h2; exact Up.refl _
      · cases h
    · cases h
theorem Zn3 {h : Tr AObj} (k : Nat) : ∀ (t : List Nat), (Znz h t).get k = if k ∈ t then h.get k else none
  | [] => by simp [Znz, Tr.get_nil]
  | j :: t => by
    rw [Znz, Tr.get_set]
    by_cases hk : k = j
    · subst hk; rw [Zy]; simp
    · rw [Zn hk, Zn3 k t]
      simp [hk]
theorem ZrX {r h : Tr AObj} (k : Nat) : ∀ (t : List Nat), (ZsF r t h).get k = if k ∈ t then r.get k else h.get k
  | [] => by simp [ZsF]
  | j :: t => by
    rw [ZsF, Tr.get_set]
    by_cases hk : k = j
    · subst hk; rw [Zy]; simp
    · rw [Zn hk, ZrX k t]
      simp [hk]
section
variable {P : Program}
/-! ### What is elsewhere stays -/
noncomputable def join (h x : AH) : AH := fun k => match h k with | some o => some o | none => x k
theorem ZfC {h x : AH} {k : Nat} (hk : (h k).isSome) : join h x k = h k := by
  unfold join
  cases he : h k with
  | none => rw [he] at hk; cases hk
  | some o => rfl
theorem Zd9 {h x : AH} {k : Nat} (hk : h k = none) : join h x k = x k := by unfold join; rw [hk]
theorem Emb.sub {ι : Ren} {h g : AH} {w : World} (e : Emb P ι g w) (hs : ∀ k o, h k = some o → g k = some o) : Emb P ι h w := by
  have iso : ∀ k, (h k).isSome → (g k).isSome := fun k hk => by
    cases he : h k with
    | none => rw [he] at hk; cases hk
    | some o => rw [hs k o he]; rfl
  have isoC : ∀ k, isC (h k) = true → isC (g k) = true := fun k hk => by
    cases he : h k with
    | none => rw [he] at hk; cases hk
    | some o => rw [hs k o he, ← he]; exact hk
  exact ⟨fun k c t hk => e.obj k c t (hs k _ hk), fun k O hk => e.ro k O (hs k _ hk), fun k k' b b' h1 h2 => e.inj k k' b b' (isoC k h1) (iso k' h2), e.lt⟩
theorem Step.framed {ι ι' : Ren} {h h' x : AH} {w w' : World} (st : Step P ι h w ι' h' w') (e : Emb P ι (join h x) w) (hx : ∀ k, (x k).isSome → h k = none) :
    Step P ι (join h x) w ι' (join h' x) w' := by
  have hl : ∀ k, (h k).isSome → (join h x k).isSome := fun k hk => by rw [ZfC hk]; exact hk
  have hlC : ∀ k, isC (h k) = true → isC (join h x k) = true := fun k hk => by rw [ZfC (ZdP hk)]; exact hk
  have xlC : ∀ k, isC (x k) = true → isC (join h x k) = true := fun k hk => by rw [Zd9 (hx k (ZdP hk))]; exact hk
  have xl : ∀ k, (x k).isSome → (join h x k).isSome := fun k hk => by rw [Zd9 (hx k hk)]; exact hk
  have parts : ∀ k, (join h' x k).isSome → (h' k).isSome ∨ (h' k = none ∧ (x k).isSome) := fun k hk => by
    cases he : h' k with
    | some o => exact .inl rfl
    | none => rw [Zd9 he] at hk; exact .inr ⟨rfl, hk⟩
  have partsC : ∀ k, isC (join h' x k) = true → isC (h' k) = true ∨ (h' k = none ∧ isC (x k) = true) := fun k hk => by
    cases he : h' k with
    | some o => rw [ZfC (by rw [he]; rfl), he] at hk; exact .inl hk
    | none => rw [Zd9 he] at hk; exact .inr ⟨rfl, hk⟩
  have xι : ∀ k, (x k).isSome → ∃ b, ι k = some b ∧ ι' k = some b := fun k hk => by
    obtain ⟨b, hb⟩ := e.live (xl k hk)
    exact ⟨b, hb, st.ext k b hb⟩
  refine ⟨st.ext, ⟨fun k c t hk => ?_, fun k O hk => ?_, fun k k' b b' h1 h2 h3 h4 h5 => ?_, st.emb.lt⟩, st.os, st.tape, st.output, st.size, fun b hb hno => st.frame b hb fun k c hk => hno k c (hlC k hk), fun k b h1 h2 => ?_, fun k h1 h2 => ?_, fun k h1 h2 => ?_⟩
  · rcases parts k (by rw [hk]; rfl) with h1 | ⟨h1, h2⟩
    · rw [ZfC h1] at hk
      exact st.emb.obj k c t hk
    · rw [Zd9 h1] at hk
      obtain ⟨b, C, hb, hB, hC, hQ⟩ := e.obj k c t (by rw [Zd9 (hx k h2)]; exact hk)
      refine ⟨b, C, st.ext k b hb, ?_, hC.ext st.ext, hQ⟩
      rw [st.frame b.1 (e.lt k b hb)]
      · exact hB
      · intro j d hj hd he
        have : j = k := e.inj j k d b (hlC j hj) (xl k h2) hd hb he
        subst this
        rw [hx j h2] at hj
        cases hj
  · rcases parts k (by rw [hk]; rfl) with h1 | ⟨h1, h2⟩
    · rw [ZfC h1] at hk
      exact st.emb.ro k O hk
    · rw [Zd9 h1] at hk
      obtain ⟨b, hb, hB⟩ := e.ro k O (by rw [Zd9 (hx k h2)]; exact hk)
      refine ⟨b, st.ext k b hb, ?_⟩
      rw [st.frame b.1 (e.lt k b hb)]
      · exact hB
      · intro j d hj hd he
        have : j = k := e.inj j k d b (hlC j hj) (xl k h2) hd hb he
        subst this
        rw [hx j h2] at hj
        cases hj
  · -- one of h', one of x
    have mixed : ∀ {k k' : Nat} {b b' : Nat × Nat}, (h' k).isSome → (x k').isSome → (isC (h' k) = true ∨ isC (x k') = true) → ι' k = some b → ι' k' = some b' → b.1 = b'.1 → k = k' := fun {k k' b b'} h1 h2 hor h3 h4 h5 => by
      obtain ⟨c, hc, hc'⟩ := xι k' h2
      rw [h4] at hc'; injection hc' with hc'; subst hc'
      cases hk : ι k with
      | some d =>
        have e1 := st.ext k d hk
        rw [h3] at e1; injection e1 with e1; subst e1
        rcases hor with hC | hC
        · exact e.inj k k' b b' (hlC k (st.kind k hC (by rw [hk]; simp))) (xl k' h2) hk hc h5
        · exact (e.inj k' k b' b (xlC k' hC) (hl k (st.alive k h1 (by rw [hk]; simp))) hc hk h5.symm).symm
      | none =>
        rcases st.new k b hk h3 with h6 | ⟨j, d, hj, hd, he⟩
        · have := e.lt k' b' hc
          omega
        · have : j = k' := e.inj j k' d b' (hlC j hj) (xl k' h2) hd hc (he.trans h5)
          subst this
          rw [hx j h2] at hj
          cases hj
    rcases partsC k h1 with q1 | ⟨_, q1⟩ <;> rcases parts k' h2 with q2 | ⟨_, q2⟩
    · exact st.emb.inj k k' b b' q1 q2 h3 h4 h5
    · exact mixed (ZdP q1) q2 (.inl q1) h3 h4 h5
    · exact (mixed q2 (ZdP q1) (.inr q1) h4 h3 h5.symm).symm
    · obtain ⟨c, hc, hc'⟩ := xι k (ZdP q1)
      obtain ⟨d, hd, hd'⟩ := xι k' q2
      rw [h3] at hc'; injection hc' with hc'; subst hc'
      rw [h4] at hd'; injection hd' with hd'; subst hd'
      exact e.inj k k' b b' (xlC k q1) (xl k' q2) hc hd h5
  · rcases st.new k b h1 h2 with h3 | ⟨j, c, hj, hc⟩
    · exact .inl h3
    · exact .inr ⟨j, c, hlC j hj, hc⟩
  · rcases parts k h1 with q1 | ⟨_, q1⟩
    · exact hl k (st.alive k q1 h2)
    · exact xl k q1
  · rcases partsC k h1 with q1 | ⟨_, q1⟩
    · exact hlC k (st.kind k q1 h2)
    · exact xlC k q1

end
theorem ZrY (h : Tr AObj) : ∀ (l : List (Nat × Option AObj)) (k : Nat), (ZsD h l).get k = match ZaI k l with | some o => o | none => h.get k
  | [], k => rfl
  | x :: l, k => by
    show ((ZsD h l).set x.1 x.2).get k = _
    rw [Tr.get_set]
    unfold ZaI
    by_cases hk : k = x.1
    · subst hk
      rw [Zy, Nat.beq_refl]
      rfl
    · rw [Zn hk, ZrY h l k, ZjF (fun e => hk e.symm)]
      rfl
theorem ZlW {α : Type} {k : Nat} {o : α} : ∀ {l : List (Nat × α)}, ZaI k l = some o → (k, o) ∈ l
  | [], h => by cases h
  | x :: l, h => by
    unfold ZaI at h
    cases hb : Nat.beq x.1 k with
    | true =>
      rw [hb] at h
      injection h with h
      have := Nat.eq_of_beq_eq_true hb
      obtain ⟨a, b⟩ := x
      subst this h
      exact List.mem_cons_self
    | false =>
      rw [hb] at h
      exact List.mem_cons_of_mem _ (ZlW h)
theorem ZtB {pre : List (Nat × AObj)} {n n' : Nat} : ∀ {post : List (Nat × Option AObj)}, ZuJ pre n n' post = true → ∀ k o, ZaI k post = some o → (ZaI k pre).isSome ∨ (o.isSome ∧ n ≤ k ∧ k < n')
  | [], _, k, o, h => by cases h
  | x :: l, hk, k, o, h => by
    simp only [ZuJ, Bool.and_eq_true, Bool.or_eq_true] at hk
    unfold ZaI at h
    cases hb : Nat.beq x.1 k with
    | true =>
      rw [hb] at h
      injection h with h
      have := Nat.eq_of_beq_eq_true hb
      subst this h
      rcases hk.1 with h1 | ⟨h0, h1, h2⟩
      · exact .inl h1
      · exact .inr ⟨h0, Nat.le_of_ble_eq_true h1, Nat.le_of_ble_eq_true h2⟩
    | false => rw [hb] at h; exact ZtB hk.2 k o h
theorem Zpz {s : St} : ∀ (l : List (Nat × AObj)), s.ob <:+ ZsE s l
  | [] => List.suffix_refl _
  | x :: l => (Zpz l).trans (List.suffix_cons _ _)
theorem ZtC {s : St} : ∀ {l : List (Nat × AObj)} {x : Nat × AObj}, x ∈ l → (AObj.sameAs (s.h.get x.1) x.2, true) ∈ ZsE s l
  | y :: l, x, h => by
    rcases List.mem_cons.1 h with rfl | h
    · exact List.mem_cons_self
    · exact List.mem_cons_of_mem _ (ZtC h)
theorem Zxt {o : Option AObj} {p : AObj} (h : AObj.sameAs o p = true) : o = some p := by
  unfold AObj.sameAs at h
  split at h
  · rename_i c t c' t'
    cases hb : Nat.beq t t' with
    | true =>
      rw [hb] at h
      rw [Nat.eq_of_beq_eq_true hb, ZaF.1 h]
    | false => rw [hb] at h; cases h
  · rw [ZaF.1 h]
  · rw [ZaF.1 h]
  · cases h
theorem ZzY {S : Array Value → List (Nat × AObj) → Value → List (Nat × Option AObj) → Nat → Nat → Prop} {args : Array Value} {pre : List (Nat × AObj)} {u v : Value} {post : List (Nat × Option AObj)} {dn : Nat} {s s' : St} (h : Zwo S args pre u post dn s = some (v, s')) : Up s s' := by
  unfold Zwo at h
  replace h := (Zo h).2
  injection h with h
  injection h with h1 h2
  subst h1 h2
  refine ⟨Nat.le_add_right _ _, (Zpz pre).trans (List.suffix_cons _ _), _, rfl, fun k hk _ => ?_⟩
  show (ZsD s.h post).get k = _
  rw [ZrY]
  cases hl : ZaI k post with
  | none => rfl
  | some o => exact absurd (List.mem_map.2 ⟨_, ZlW hl, rfl⟩) hk
theorem Zyc {P : Program} {f : FuncId} {S : Array Value → List (Nat × AObj) → Value → List (Nat × Option AObj) → Nat → Nat → Prop} (hS : ∀ args pre v post n dn, S args pre v post n dn → Zj P f args pre v post n dn) {args args' : Array Value} {pre : List (Nat × AObj)} {u v : Value} {post : List (Nat × Option AObj)} {dn : Nat} {s s' : St} (h : Zwo S args pre u post dn s = some (v, s')) (ho : ∀ p ∈ s'.ob, p.1 = p.2)
    {ι : Ren} {w : World} (ha : VRs ι args args') (he : Emb P ι s.h.get w) (hf : Fresh ι s.n s'.n) : Calls P f args' w (ZsH P ι s w v s') := by
  unfold Zwo at h
  obtain ⟨hg, h⟩ := Zo h
  simp only [Bool.and_eq_true] at hg
  injection h with h
  injection h with h1 h2
  subst h1 h2
  have hc := hS _ _ _ _ _ _ (ZaF.1 (ho _ List.mem_cons_self))
  have hpre : ∀ k o, ZaI k pre = some o → s.h.get k = some o := fun k o hk => Zxt (ho (AObj.sameAs (s.h.get k) o, true) (List.mem_cons_of_mem _ (ZtC (x := (k, o)) (ZlW hk))))
  let x : AH := fun k => if (ZaI k pre).isSome then none else s.h.get k
  have hx : ∀ k, (x k).isSome → (fun k => ZaI k pre) k = none := fun k hk => by
    show ZaI k pre = none
    cases hl : ZaI k pre with
    | none => rfl
    | some o => simp [x, hl] at hk
  have e1 : join (fun k => ZaI k pre) x = s.h.get := funext fun k => by
    cases hl : ZaI k pre with
    | none => rw [Zd9 hl]; simp [x, hl]
    | some o => rw [ZfC (h := fun k => ZaI k pre) (by simp [hl])]; simp only [hl]; exact (hpre k o hl).symm
  have e2 : join (behind pre post) x = (ZsD s.h post).get := funext fun k => by
    rw [ZrY]
    cases hl : ZaI k post with
    | some o =>
      cases o with
      | some o =>
        have hb : behind pre post k = some o := by unfold behind; rw [hl]
        rw [ZfC (by rw [hb]; rfl), hb]
      | none =>
        have hb : behind pre post k = none := by unfold behind; rw [hl]
        rw [Zd9 hb]
        rcases ZtB hg.1 k none hl with h1 | ⟨h1, _⟩
        · simp [x, h1]
        · cases h1
    | none =>
      have hb : behind pre post k = ZaI k pre := by unfold behind; rw [hl]
      cases hp : ZaI k pre with
      | none => rw [Zd9 (by rw [hb, hp])]; simp [x, hp]
      | some o => rw [ZfC (by rw [hb, hp]; rfl), hb, hp]; exact (hpre k o hp).symm
  refine (hc ι w args' ha (he.sub fun k o hk => hpre k o hk) hf).mono ?_
  rintro e w' ⟨v', ι', rfl, g1, g2, g3⟩
  have := g1.framed (x := x) (by rw [e1]; exact he) hx
  rw [e1, e2] at this
  exact ⟨v', ι', rfl, this, g2, g3⟩
theorem ZeN (hup : ∀ (f : Nat) (g : Array Value → St → Out), ext f = some (.hp g) → ∀ args s v s', g args s = some (v, s') → Up s s') : ∀ fu : Nat, (∀ nt c T s e T' s', Zah P ext nt fu c T s = some (e, T', s') → Up s s') ∧ (∀ nt ops l T s T' s', Zi9 P ext nt fu ops l T s = some (T', s') → Up s s') ∧
    (∀ ρ o s v s', ZhT P ext fu ρ o s = some (v, s') → Up s s') ∧ (∀ f args s v s', Zeh P ext fu f args s = some (v, s') → Up s s') ∧ (∀ nt ops done l T s es T' s', ZfB P ext nt fu ops done l T s = some (es, T', s') → Up s s') ∧ (∀ ρ o s v s' r, Zl4 P ext fu ρ o s = some (v, s', r) → Up s s') := by
  intro fu
  induction fu with
  | zero => exact ⟨fun _ _ _ _ _ _ _ h => by simp [Zah] at h, fun _ _ _ _ _ _ _ h => by simp [Zi9, St.keep_eq] at h, fun _ _ _ _ _ h => by simp [ZhT] at h, fun _ _ _ _ _ h => by simp [Zeh] at h, fun _ _ _ _ _ _ _ _ _ h => by simp [ZfB, St.keep_eq] at h, fun _ _ _ _ _ _ h => by simp [Zl4] at h⟩
  | succ fu ih =>
    obtain ⟨ihC, ihO, ihP, ihF, ihD, ihE⟩ := ih
    refine ⟨fun nt c T s e T' s' h => ?_, fun nt ops l T s T' s' h => ?_, fun ρ o s v s' h => ?_, fun f args s v s' h => ?_, fun nt ops done l T s es T' s' h => ?_, fun ρ o s v s' r h => ?_⟩
    · cases c <;> simp only [Zah] at h
      case skip => injection h with h; simp only [Prod.mk.injEq] at h; obtain ⟨_, _, rfl⟩ := h; exact Up.refl _
      case label l => injection h with h; simp only [Prod.mk.injEq] at h; obtain ⟨_, _, rfl⟩ := h; exact Up.refl _
      case scope c => exact ihC _ _ _ _ _ _ _ h
      case ret => injection h with h; simp only [Prod.mk.injEq] at h; obtain ⟨_, _, rfl⟩ := h; exact Up.refl _
      case exit id => injection h with h; simp only [Prod.mk.injEq] at h; obtain ⟨_, _, rfl⟩ := h; exact Up.refl _
      case seq a b =>
        split at h
        · exact (ihC _ _ _ _ _ _ _ (by assumption)).trans (ihC _ _ _ _ _ _ _ h)
        · injection h with h; simp only [Prod.mk.injEq] at h; obtain ⟨_, _, rfl⟩ := h; exact ihC _ _ _ _ _ _ _ (by assumption)
        · injection h with h; simp only [Prod.mk.injEq] at h; obtain ⟨_, _, rfl⟩ := h; exact ihC _ _ _ _ _ _ _ (by assumption)
        · cases h
      case cond x a b =>
        split at h
        · split at h
          · exact ihC _ _ _ _ _ _ _ h
          · exact ihC _ _ _ _ _ _ _ h
        · cases h
      case block id a =>
        split at h
        · rename_i i T1 s1 h1
          cases hb : Nat.beq i id <;> rw [hb] at h <;> (injection h with h; simp only [Prod.mk.injEq] at h; obtain ⟨_, _, rfl⟩ := h; exact ihC _ _ _ _ _ _ _ (by assumption))
        · injection h with h; simp only [Prod.mk.injEq] at h; obtain ⟨_, _, rfl⟩ := h; exact ihC _ _ _ _ _ _ _ (by assumption)
        · injection h with h; simp only [Prod.mk.injEq] at h; obtain ⟨_, _, rfl⟩ := h; exact ihC _ _ _ _ _ _ _ (by assumption)
        · cases h
      case loop a =>
        split at h
        · exact (ihC _ _ _ _ _ _ _ (by assumption)).trans (ihC _ _ _ _ _ _ _ h)
        · injection h with h; simp only [Prod.mk.injEq] at h; obtain ⟨_, _, rfl⟩ := h; exact ihC _ _ _ _ _ _ _ (by assumption)
        · injection h with h; simp only [Prod.mk.injEq] at h; obtain ⟨_, _, rfl⟩ := h; exact ihC _ _ _ _ _ _ _ (by assumption)
        · cases h
      case region id ops draw =>
        cases draw with
        | true =>
          simp only [cond_true] at h
          split at h
          · injection h with h; simp only [Prod.mk.injEq] at h; obtain ⟨_, _, rfl⟩ := h; exact ihD _ _ _ _ _ _ _ _ _ (by assumption)
          · cases h
        | false =>
          simp only [cond_false] at h
          split at h
          · injection h with h; simp only [Prod.mk.injEq] at h; obtain ⟨_, _, rfl⟩ := h; exact ihO _ _ _ _ _ _ _ (by assumption)
          · cases h
      all_goals cases h
    · cases l with
      | nil => simp only [Zi9, St.keep_eq] at h; injection h with h; simp only [Prod.mk.injEq] at h; obtain ⟨_, rfl⟩ := h; exact Up.refl _
      | cons o l =>
        simp only [Zi9, St.keep_eq] at h
        replace h := (Zo h).2
        split at h
        · split at h
          · exact (Zd8 (by assumption)).trans ((ihP _ _ _ _ _ (by assumption)).trans (ihO _ _ _ _ _ _ _ h))
          · cases h
        · exact (Zd8 (by assumption)).trans (ihO _ _ _ _ _ _ _ h)
        · cases h
    · simp only [ZhT] at h
      split at h
      · split at h
        · split at h
          · split at h
            · exact (Zaj (by assumption)).trans (ZxX h)
            · cases h
            · exact (Zaj (by assumption)).trans (ZyI h)
          · exact ZzX h
          · exact hup _ _ (by assumption) _ _ _ _ h
          · split at h
            · exact (Zaj (by assumption)).trans (ZzY h)
            · cases h
          · exact up_fn h
          · exact ihF _ _ _ _ _ h
        · cases h
      · split at h
        · rename_i v1 s1 h1
          injection h with h
          exact (Z0j h1).trans (Zx6 h)
        · cases h
    · simp only [Zeh] at h
      split at h
      · split at h
        · replace h := (Zo h).2
          split at h
          · cases h
          · split at h
            · injection h with h; simp only [Prod.mk.injEq] at h; obtain ⟨_, rfl⟩ := h; exact ihC _ _ _ _ _ _ _ (by assumption)
            · injection h with h; simp only [Prod.mk.injEq] at h; obtain ⟨_, rfl⟩ := h; exact ihC _ _ _ _ _ _ _ (by assumption)
            · cases h
          · cases h
        · cases h
      · cases h
    · cases l with
      | nil => simp only [ZfB, St.keep_eq] at h; injection h with h; simp only [Prod.mk.injEq] at h; obtain ⟨_, _, rfl⟩ := h; exact Up.refl _
      | cons o l =>
        simp only [ZfB, St.keep_eq] at h
        replace h := (Zo h).2
        split at h
        · split at h
          · replace h := (Zo h).2
            exact (Zd8 (by assumption)).trans ((ihE _ _ _ _ _ _ (by assumption)).trans (ihD _ _ _ _ _ _ _ _ _ h))
          · cases h
        · replace h := (Zo h).2
          exact (Zd8 (by assumption)).trans (ihD _ _ _ _ _ _ _ _ _ h)
        · cases h
    · simp only [Zl4] at h
      split at h
      · split at h
        · rename_i v1 s1 h1
          replace h := (Zo h).2
          injection h with h; simp only [Prod.mk.injEq] at h; obtain ⟨_, rfl, _⟩ := h
          have u := ihP _ _ _ _ _ h1
          obtain ⟨l, e1, e2⟩ := u.log
          simp only [List.append_nil] at e1
          exact ⟨u.n, u.ob, l, by rw [e1], e2⟩
        · cases h
      · replace h := (Zo h).2
        generalize (Ziy s ρ o).1 = w at h
        generalize (Ziy s ρ o).2 = t at h
        generalize Zpx ρ o = q at h
        split at h
        · rename_i v1 s1 h1
          obtain ⟨hg, h⟩ := Zo h
          injection h with h; simp only [Prod.mk.injEq] at h; obtain ⟨_, rfl, _⟩ := h
          have u := ihP _ _ _ _ _ h1
          obtain ⟨l, e1, e2⟩ := u.log
          simp only [List.append_nil] at e1
          refine ⟨u.n, u.ob, l, by rw [e1], fun k hk hn => ?_⟩
          show (Tr.set _ _ _).get k = _
          rw [Tr.get_set]
          by_cases hkn : k = s.n
          · subst hkn
            rw [Zy]
            have hn' : ¬ s.n < s1.n := fun e => hn ⟨Nat.le_refl _, e⟩
            have : s1.n = s.n := by have := u.n; simp only at this; omega
            rw [ZkY this]
            rfl
          · rw [Zn hkn]
            cases w with
            | false => rfl
            | true =>
              simp only [cond_true]
              rw [ZrX]
              split
              · rename_i hm
                rw [e2 k hk hn, Zn3, if_pos (List.mem_append_left _ hm)]
              · rfl
        · cases h
end
end Ev
end Go.Proofs.YtgpekgedjmhmeaaGreat
/- The runner against the model: what it says holds in every world. -/
namespace Go.Proofs.YtgpekgedjmhmeaaGreat
open Go.RowKit
namespace Ev
section
variable {P : Program} {ext : FuncId → Option Ext}

def Ex.out : Ex → Exit
 | .normal => .normal
 | .exit id => .exit id
 | .ret => .ret
def TR (ι : Ren) (nt : Nat) (D : List Deferred) (T : Tr Value) (a : Act) : Prop := a.tmps.size = nt ∧ a.defers = D ∧ ∀ t, VR ι ((T.get t).getD undef) (a.tmps.getD t undef)
theorem TR.on {ι ι' : Ren} {nt : Nat} {D : List Deferred} {T : Tr Value} {a : Act} (h : TR ι nt D T a) (hi : ∀ k b, ι k = some b → ι' k = some b) : TR ι' nt D T a := ⟨h.1, h.2.1, fun t => (h.2.2 t).ext hi⟩
theorem VR.undef' {ι : Ren} : VR ι undef undef := VR.of_free rfl
theorem TR.put {ι : Ren} {nt : Nat} {D : List Deferred} {T : Tr Value} {a : Act} (h : TR ι nt D T a) {dst : Option Tmp} (hd : ZhQ nt dst = true) {v v' : Value} (hv : VR ι v v') : TR ι nt D (ZfQ T dst v) (a.put dst v') := by
 cases dst with
 | none => exact h
 | some d =>
  have hlt : d < a.tmps.size := by
   rw [h.1]
   simpa [ZhQ, Nat.blt_eq] using hd
  refine ⟨by simp [Act.put, h.1], h.2.1, fun t => ?_⟩
  simp only [ZfQ, Tr.get_set, Act.put]
  by_cases ht : t = d
  ·subst ht
   rw [Zy]
   simp [Array.getD, hlt]
   exact hv
  ·rw [Zn ht]
   have : (a.tmps.setIfInBounds d v').getD t undef = a.tmps.getD t undef := by
    simp [Array.getD_eq_getD_getElem?, Array.getElem?_setIfInBounds_ne (fun e => ht e.symm)]
   rw [this]
   exact h.2.2 t
def ZcY (a : Act) : Operand → Value
 | .const v => bif ZeP v then v else undef
 | x => a.eval x
theorem TR.opnd {ι : Ren} {nt : Nat} {D : List Deferred} {T : Tr Value} {a : Act} (h : TR ι nt D T a) (x : Operand) : VR ι (Ev.opnd T x) (ZcY a x) := by
 cases x with
 | tmp t => exact h.2.2 t
 | const v =>
  simp only [Ev.opnd, ZcY]
  cases hf : ZeP v
  ·exact VR.undef'
  ·exact VR.of_free hf
 | global g => exact .glob rfl
 | func f => exact .atom rfl
theorem Zkd {a : Act} {o : Oper} (hs : ∀ cs b, o.op ≠ .select cs b) (hg : ZS ZhF o.op.operands.toList = true) : execOp (ZcY a) o = execOp a.eval o :=
 execOp_congr o hs fun x hx => by
  have := Za8 hg x (by simpa using hx)
  cases x with
  | const v =>
   simp only [ZhF] at this
   simp [ZcY, this, Act.eval]
  | _ => rfl
theorem Zhs {a : Act} {x : Operand} {t : Bool} (h : ZcY a x = .bool t) : a.eval x = .bool t := by
 cases x with
 | const v =>
  simp only [ZcY] at h
  cases hf : ZeP v <;> rw [hf] at h
  ·simp [undef] at h
  ·exact h
 | _ => exact h
theorem ZfX {ι : Ren} {T : Tr Value} {a : Act} {ops : Array Oper} {o : Oper} {s s' : St} {b : Bool} (h : ∀ t ∈ o.looksAt ops, VR ι ((T.get t).getD undef) (a.tmps.getD t undef)) (hw : ZgD ops T o s = some (b, s')) :
  Region.wanted o (yielded ops a.tmps) = b ∧ s'.h = s.h ∧ s'.n = s.n := by
 unfold ZgD at hw
 unfold Region.wanted
 split at hw
 ·rename_i hg
  injection hw with hw; injection hw with h1 h2; subst h1 h2
  rw [hg]
  exact ⟨rfl, rfl, rfl⟩
 ·rename_i j want hg
  rw [hg]
  simp only
  split at hw
  ·rename_i d hd
   have hv := h d (by unfold Oper.looksAt; rw [hg]; simp [hd])
   split at hw
   ·rename_i q hq
    rw [hq] at hv
    have hv' := hv.bool_inv
    have hget : a.tmps[d]? = some (.bool q) := by
     simp only [Array.getD_eq_getD_getElem?] at hv'
     cases hx : a.tmps[d]? with
     | none => rw [hx] at hv'; simp [undef] at hv'
     | some u => rw [hx] at hv'; simpa using hv'
    have hy : yielded ops a.tmps j = some q := by
     unfold yielded
     rw [hd]
     simp [hget]
    rw [hy]
    injection hw with hw; injection hw with h1 h2; subst h1 h2
    exact ⟨by cases q <;> cases want <;> rfl, rfl, rfl⟩
   ·rename_i u hq
    injection hw with hw; injection hw with h1 h2; subst h1 h2
    rw [hq] at hv
    refine ⟨?_, rfl, rfl⟩
    have hy : yielded ops a.tmps j = none := by
     unfold yielded
     rw [hd]
     simp only [Option.bind_some]
     split
     ·rename_i c hc
      exfalso
      simp only [Array.getD_eq_getD_getElem?, hc, Option.getD_some] at hv
      cases hv
     ·rfl
    rw [hy]
    rfl
   ·cases hw
  ·cases hw
def Zp0 (tmps : Array Value) : ResultVar → Sem Value
 | .tmp t => pure (tmps.getD t undef)
 | .cell b t => do loadVar t (← asAddr (tmps.getD b undef))
theorem Zla {ι : Ren} {nt : Nat} {D : List Deferred} {T : Tr Value} {a : Act} {s : St} {w : World} (h : TR ι nt D T a) (he : Emb P ι s.h.get w) : ∀ (rs : List ResultVar) (l : List Value), ZbY P T s rs = some l →
  ∃ l' : List Value, (rs.mapM (Zp0 a.tmps)).run P w = .ok l' w ∧ l.length = l'.length ∧ ∀ (i : Nat) x y, l[i]? = some x → l'[i]? = some y → VR ι x y
 | [], l, hr => by
  simp only [ZbY, Option.some.injEq] at hr
  subst hr
  exact ⟨[], by simp [Sem.run], rfl, fun i x y hx => by simp at hx⟩
 | .tmp t :: rs, l, hr => by
  simp only [ZbY] at hr
  split at hr
  ·rename_i r hr'
   injection hr with hr
   subst hr
   obtain ⟨l', h1, h2, h3⟩ := Zla h he rs r hr'
   refine ⟨a.tmps.getD t undef :: l', ?_, by simp [h2], fun i x y hx hy => ?_⟩
   ·have e0 : (Zp0 a.tmps (.tmp t)).run P w = .ok (a.tmps.getD t undef) w := rfl
    simp only [List.mapM_cons, Sem.run_bind, e0, Result.andThen, h1]
    rfl
   ·cases i with
    | zero => simp at hx hy; subst hx hy; simpa using h.2.2 t
    | succ i => exact h3 i x y (by simpa using hx) (by simpa using hy)
  ·cases hr
 | .cell b t :: rs, l, hr => by
  simp only [ZbY] at hr
  split at hr
  ·rename_i k o hb
   split at hr
   ·rename_i u r hu hr'
    injection hr with hr
    subst hr
    obtain ⟨l', h1, h2, h3⟩ := Zla h he rs r hr'
    obtain ⟨bk, v', hbk, hrun, hv⟩ := ZqV he hu
    have hp := h.2.2 b
    rw [hb] at hp
    obtain ⟨bk', hbk', hp'⟩ := hp.ptr_inv
    rw [hbk] at hbk'; injection hbk' with hbk'; subst hbk'
    refine ⟨v' :: l', ?_, by simp [h2], fun i x y hx hy => ?_⟩
    ·have e0 : (Zp0 a.tmps (.cell b t)).run P w = .ok v' w := by
      simp [Zp0, hp', asAddr, hrun, -Array.getD_eq_getD_getElem?]
     simp only [List.mapM_cons, Sem.run_bind, e0, Result.andThen, h1]
     rfl
    ·cases i with
     | zero => simp at hx hy; subst hx hy; exact hv
     | succ i => exact h3 i x y (by simpa using hx) (by simpa using hy)
   ·cases hr
  ·cases hr
theorem ZfR {ι : Ren} {nt : Nat} {D : List Deferred} {T : Tr Value} {a : Act} {s : St} {w : World} {fn : Func} {v : Value} (h : TR ι nt D T a) (he : Emb P ι s.h.get w)
  (hr : (match ZbY P T s fn.results.toList with | some [v] => some v | some vs => some (.tuple vs.toArray) | none => none) = some v) : ∃ v', (results fn a.tmps).run P w = .ok v' w ∧ VR ι v v' := by
 have hR : results fn a.tmps = (do let vs ← fn.results.mapM (Zp0 a.tmps); pure (if h : vs.size = 1 then vs[0] else .tuple vs)) := rfl
 cases hx : ZbY P T s fn.results.toList with
 | none => rw [hx] at hr; cases hr
 | some l =>
  rw [hx] at hr
  obtain ⟨l', h1, h2, h3⟩ := Zla h he fn.results.toList l hx
  have hA : (fn.results.mapM (Zp0 a.tmps)).run P w = .ok l'.toArray w := by
   rw [Array.mapM_eq_mapM_toList]
   simp [h1]
  rw [hR]
  rcases l with _ | ⟨x, _ | ⟨y, l⟩⟩
  ·injection hr with hr
   subst hr
   have : l' = [] := List.eq_nil_of_length_eq_zero (by simpa using h2.symm)
   subst this
   exact ⟨.tuple #[], by simp [hA], .tuple rfl fun i x y hx => by simp at hx⟩
  ·injection hr with hr
   subst hr
   rcases l' with _ | ⟨x', _ | ⟨y', l'⟩⟩
   ·simp at h2
   ·exact ⟨x', by simp [hA], h3 0 x x' rfl rfl⟩
   ·simp at h2
  ·injection hr with hr
   subst hr
   have hne : ¬ l'.length = 1 := by simp at h2; omega
   exact ⟨.tuple l'.toArray, by simp [hA, hne], .tuple (by simpa using h2) fun i x y hx hy => h3 i x y (by simpa using hx) (by simpa using hy)⟩
end
end Ev
end Go.Proofs.YtgpekgedjmhmeaaGreat
/- The runner against the model: what it says holds in every world. -/
namespace Go.Proofs.YtgpekgedjmhmeaaGreat
open Go.RowKit
namespace Ev
section
variable {P : Program} {ext : FuncId → Option Ext}

theorem ZeS {f : FuncId} {fn : Func} {c : Code} (hf : P.funcs[f]? = some fn) (hn : (fn.name == "runtime.NumGoroutine") = false) (hb : fn.body = some c) (args : Array Value) (w : World) :
  (callFunc f args).run P w = .ok (.enter f args) w := by
 have h1 : fn.name ≠ "runtime.NumGoroutine" := by simpa using hn
 simp [callFunc, hf, h1, hb]
theorem ZzZ {ι : Ren} {s : St} {w : World} (he : Emb P ι s.h.get w) {k o : Nat} {kk : IntKind} {v : Int} (h : ZfA s k o 1 = some [.int kk v]) : ∃ b C t, ι k = some b ∧ w.heap[b.1]? = some (.cells C t (0, 0)) ∧ w.cell? ⟨b.1, o, none⟩ = some (.int kk v) ∧ w.frozen? ⟨b.1, o, none⟩ = false := by
 obtain ⟨b, C, t, hb, hB, hl, hx⟩ := Zqb he h
 obtain ⟨y, hy, hv⟩ := hx 0 _ rfl
 refine ⟨b, C, t, hb, hB, ?_, by simp only [World.frozen?, hB]; simp⟩
 rw [cell_of_row w b.1 o C t (0, 0) hB]
 simpa [hv.int_inv] using hy
theorem Zvm {w : World} {b o : Nat} {C : Array Value} {t : TypeId} {x : Value} (hB : w.heap[b]? = some (.cells C t (0, 0))) (ho : o < C.size) : w.setRow b (C.toList.take o ++ [x] ++ C.toList.drop (o + 1)).toArray = w.setCell ⟨b, o, none⟩ x := by
 have e : (C.toList.take o ++ [x] ++ C.toList.drop (o + 1)).toArray = C.setIfInBounds o x := by
  apply Array.ext'
  simp only [Array.toList_setIfInBounds]
  rw [List.set_eq_take_append_cons_drop, if_pos (by simpa using ho)]
  simp
 rw [e]
 unfold World.setRow World.setCell
 congr 1
 apply Array.ext
 ·simp
 ·intro i h1 h2
  simp only [Array.getElem_modify]
  split
  ·rename_i hi
   subst hi
   have hlt : b < w.heap.size := (Array.getElem?_eq_some_iff.1 hB).1
   have : w.heap[b] = .cells C t (0, 0) := by
    have := Array.getElem?_eq_getElem hlt
    rw [hB] at this
    exact (Option.some.inj this).symm
   simp [this]
  ·rfl
theorem ZrZ {ι : Ren} {s s' : St} {w : World} (he : Emb P ι s.h.get w) {k o : Nat} {x : Int} {kk : IntKind} (h : Zdg s k o [.int kk x] = some s') {b : Nat × Nat} (hb : ι k = some b) :
  Step P ι s.h.get w ι s'.h.get (w.setCell ⟨b.1, o, none⟩ (.int kk x)) ∧ s'.n = s.n := by
 obtain ⟨b2, w', hb2, _, hstep, hn, ⟨C, t, hB, hfit, hw⟩, _⟩ := ZkZ he (c := #[.int kk x]) h rfl (fun i a b h1 h2 => by
  rcases i with _ | i
  ·simp at h1 h2; subst h1 h2; exact .atom rfl
  ·simp at h1)
 rw [hb] at hb2; injection hb2 with hb2; subst hb2
 have ho : o < C.size := by simp at hfit; omega
 have : w' = w.setCell ⟨b.1, o, none⟩ (.int kk x) := by
  rw [hw]
  exact Zvm hB ho
 rw [← this]
 exact ⟨hstep, hn⟩
theorem Zyd (F : Fit P ext) {f n : Nat} (hx : ext f = some (.mark n)) {ι : Ren} {w : World} {s s' : St} {args args' : Array Value} {v : Value} (ha : VRs ι args args') (he : Emb P ι s.h.get w) (h : ZrM n args s = some (v, s')) :
  Res P ((callFunc f args').run P w) s ι w v s' := by
 obtain ⟨fn, hf, hb, hn, hk⟩ := F.mark f n hx
 have hname := F.go f fn hf
 unfold ZrM at h
 split at h
 ·rename_i hargs
  injection h with h; injection h with h1 h2; subst h1 h2
  have hA : args' = #[] := by
   have := ha.1
   rw [← Array.length_toList, hargs] at this
   exact Array.eq_empty_of_size_eq_zero this.symm
  rcases hk with ⟨_, m, hk⟩ | ⟨h, _⟩
  ·exact Res.same he (v' := .tuple #[]) (by rw [hA]; exact run_call_mark0 hf hname hb hn m hk w) (VR.of_free rfl)
  ·omega
 ·rename_i k o hargs
  injection h with h; injection h with h1 h2; subst h1 h2
  have hsz : args'.size = 1 := by rw [← ha.1, ← Array.length_toList, hargs]; rfl
  have h0 : args[0]? = some (.pointer (some ⟨k, o, none⟩)) := by
   have : args.toList[0]? = some (.pointer (some ⟨k, o, none⟩)) := by rw [hargs]; rfl
   simpa using this
  have hv := ha.2 0 _ args'[0] h0 (Array.getElem?_eq_getElem (by omega))
  obtain ⟨b, hb2, hp⟩ := hv.ptr_inv
  have hA : args' = #[.pointer (some ⟨b.1, o, none⟩)] := by
   apply Array.ext (by simpa using hsz)
   intro i h3 h4
   have : i = 0 := by omega
   subst this
   simpa using hp
  rcases hk with ⟨h, _⟩ | ⟨_, m, hk⟩
  ·omega
  ·exact Res.same he (v' := .tuple #[]) (by rw [hA]; exact run_call_marked hf hname hb hn m hk _ w) (VR.of_free rfl)
 ·cases h
theorem Zsa (F : Fit P ext) {f e : Nat} {kk : IntKind} (hx : ext f = some (.at kk e)) {ι : Ren} {w : World} {s s' : St} {args args' : Array Value} {v : Value} (ha : VRs ι args args') (he : Emb P ι s.h.get w) (ho : ∀ p ∈ s'.ob, p.1 = p.2) (h : Zfe kk e args s = some (v, s')) :
  Res P ((callFunc f args').run P w) s ι w v s' := by
 obtain ⟨fn, hf, hb, hn, hk⟩ := F.ext f kk e hx
 have hname := F.go f fn hf
 clear hx
 have get : ∀ {i : Nat} {x : Value}, args.toList[i]? = some x → ∃ y, args'[i]? = some y ∧ VR ι x y := fun {i x} hi => by
  have hi' : args[i]? = some x := by simpa using hi
  have hlt : i < args'.size := by rw [← ha.1]; exact (Array.getElem?_eq_some_iff.1 hi').1
  exact ⟨args'[i], Array.getElem?_eq_getElem hlt, ha.2 i x _ hi' (Array.getElem?_eq_getElem hlt)⟩
 have arr : ∀ {l : List Value}, args'.size = l.length → (∀ (i : Nat) (y : Value), l[i]? = some y → args'[i]? = some y) → args' = l.toArray := fun {l} h1 h2 => by
  apply Array.ext (by simpa using h1)
  intro i h3 h4
  have := h2 i l[i] (List.getElem?_eq_getElem (by simpa using h4))
  rw [Array.getElem?_eq_getElem h3] at this
  simpa using Option.some.inj this
 unfold Zfe at h
 split at h
 ·rename_i k o r hargs
  split at h
  ·rename_i ck vv hrow
   split at h
   ·rename_i hck
    subst hck
    obtain ⟨b, C, t, hbk, hB, hc, hz⟩ := ZzZ he hrow
    obtain ⟨y0, hy0, hv0⟩ := get (i := 0) (by rw [hargs]; rfl)
    obtain ⟨b', hb', rfl⟩ := hv0.ptr_inv
    rw [hbk] at hb'; injection hb' with hb'; subst hb'
    have hsz : args'.size = r.length + 1 := by rw [← ha.1, ← Array.length_toList, hargs]; rfl
    split at h
    ·injection h with h; injection h with h1 h2; subst h1 h2
     have hA : args' = #[.pointer (some ⟨b.1, o, none⟩)] := arr (l := [_]) (by simpa using hsz) fun i y hi => by
      rcases i with _ | i
      ·simp at hi; subst hi; exact hy0
      ·simp at hi
     rcases hk with ⟨_, hk⟩ | ⟨h, _⟩ | ⟨h, _⟩ | ⟨h, _⟩ <;> try omega
     exact Res.same he (v' := .int ck vv) (by rw [hA]; exact run_call_load hf hname hb hn _ hk hc) (.atom rfl)
    ·rename_i xk x
     split at h
     ·rename_i hxk
      subst hxk
      split at h
      ·rename_i s1 hw
       injection h with h; injection h with h1 h2; subst h1 h2
       obtain ⟨y1, hy1, hv1⟩ := get (i := 1) (by rw [hargs]; rfl)
       have := hv1.int_inv
       subst this
       have hA : args' = #[.pointer (some ⟨b.1, o, none⟩), .int _ x] := arr (l := [_, _]) (by simpa using hsz) fun i y hi => by
        rcases i with _ | _ | i
        ·simp at hi; subst hi; exact hy0
        ·simp at hi; subst hi; exact hy1
        ·simp at hi
       rcases hk with ⟨h, _⟩ | ⟨_, hk⟩ | ⟨h, _⟩ | ⟨h, _⟩ <;> try omega
       obtain ⟨q1, q2⟩ := ZrZ he hw hbk
       exact ⟨_, _, ι, .tuple #[], by rw [hA]; exact run_call_store hf hname hb hn hk hc hz, .inl rfl, q1, q2 ▸ Dom.refl, VR.of_free rfl⟩
      ·cases h
     ·cases h
    ·rename_i xk d
     split at h
     ·rename_i hxk
      subst hxk
      split at h
      ·rename_i s1 hw
       injection h with h; injection h with h1 h2; subst h1 h2
       obtain ⟨y1, hy1, hv1⟩ := get (i := 1) (by rw [hargs]; rfl)
       have := hv1.int_inv
       subst this
       have hA : args' = #[.pointer (some ⟨b.1, o, none⟩), .int _ d] := arr (l := [_, _]) (by simpa using hsz) fun i y hi => by
        rcases i with _ | _ | i
        ·simp at hi; subst hi; exact hy0
        ·simp at hi; subst hi; exact hy1
        ·simp at hi
       rcases hk with ⟨h, _⟩ | ⟨h, _⟩ | ⟨_, hk⟩ | ⟨h, _⟩ <;> try omega
       obtain ⟨q1, q2⟩ := ZrZ he hw hbk
       exact ⟨_, _, ι, .int _ _, by rw [hA]; exact run_call_add hf hname hb hn _ hk hc hz (by simp [Op.intArith]), .inl rfl, q1, q2 ▸ Dom.refl, .atom rfl⟩
      ·cases h
     ·cases h
    ·rename_i xk x yk y
     split at h
     ·rename_i hxy
      obtain ⟨hxk, hyk⟩ := hxy
      subst hxk
      subst hyk
      obtain ⟨y1, hy1, hv1⟩ := get (i := 1) (by rw [hargs]; rfl)
      have := hv1.int_inv
      subst this
      obtain ⟨y2, hy2, hv2⟩ := get (i := 2) (by rw [hargs]; rfl)
      have := hv2.int_inv
      subst this
      have hA : args' = #[.pointer (some ⟨b.1, o, none⟩), .int _ x, .int _ y] := arr (l := [_, _, _]) (by simpa using hsz) fun i z hi => by
       rcases i with _ | _ | _ | i
       ·simp at hi; subst hi; exact hy0
       ·simp at hi; subst hi; exact hy1
       ·simp at hi; subst hi; exact hy2
       ·simp at hi
      rcases hk with ⟨h, _⟩ | ⟨h, _⟩ | ⟨h, _⟩ | ⟨_, hk⟩ <;> try omega
      split at h
      ·rename_i s1 hs
       split at h
       ·rename_i s2 hw
        injection h with h; injection h with h1 h2; subst h1 h2
        obtain ⟨e1, e2, e3⟩ := ZrQ hs (ZaY (ZbV hw).ob ho)
        have hvx : vv = x := by simpa using e1.symm
        subst hvx
        obtain ⟨q1, q2⟩ := ZrZ (e2 ▸ he) hw hbk
        exact ⟨_, _, ι, .bool true, by rw [hA]; exact run_call_cas_hit hf hname hb hn _ hk hc hz, .inl rfl, e2 ▸ q1, (q2.trans e3) ▸ Dom.refl, .atom rfl⟩
       ·cases h
      ·rename_i s1 hs
       injection h with h; injection h with h1 h2; subst h1 h2
       obtain ⟨e1, e2, e3⟩ := ZrQ hs ho
       have hvx : vv ≠ x := by simpa using e1.symm
       exact Res.heap (s := s1) (Res.same (e2 ▸ he) (v' := .bool false) (by rw [hA]; exact run_call_cas_miss hf hname hb hn _ hk hc hz hvx) (.atom rfl)) e2.symm e3.symm
     ·cases h
    ·cases h
   ·cases h
  ·cases h
 ·cases h
theorem Zye {kk : IntKind} {e : Nat} {args : Array Value} {z : Int} {c' : List Value} {s s' : St} {v : Value} (hob : ∀ p ∈ s'.ob, p.1 = p.2) (h : ZjT kk e args z c' s = some (v, s')) (hw : s.orc.w = s.orc.w) :
  ∃ s0 s1, Zfe kk e args s0 = some (v, s1) ∧ s0.h = s.h ∧ s0.n = s.n ∧ s'.h = s1.h ∧ s'.n = s1.n ∧ ∀ p ∈ s1.ob, p.1 = p.2 := by
 unfold ZjT at h
 split at h
 ·rename_i k o r hargs
  split at h
  ·rename_i c t hk
   split at h
   ·injection h with h
    injection h with h1 h2
    subst h1 h2
    have q := ZaF.1 (hob (_, true) List.mem_cons_self)
    refine ⟨s, s, ?_, rfl, rfl, rfl, rfl, fun p hp => hob p (List.mem_cons_of_mem _ hp)⟩
    unfold Zfe
    rw [hargs]
    simp only [ZfA, hk, q, if_true]
   ·rename_i xk x
    split at h
    ·rename_i hxk
     subst hxk
     injection h with h
     injection h with h1 h2
     subst h1 h2
     obtain ⟨q, q1, q2⟩ := ZaF.1 (hob (_, true) List.mem_cons_self)
     refine ⟨s, s.putK k c' t, ?_, rfl, rfl, rfl, rfl, fun p hp => hob p (List.mem_cons_of_mem _ hp)⟩
     unfold Zfe
     rw [hargs]
     simp only [ZfA, hk, q, if_true, Zdg, List.length_cons, List.length_nil, Nat.zero_add, Nat.ble_eq_true_of_le q1, ZS, Zf9, Bool.and_self, cond_true, q2]
    ·cases h
   ·rename_i xk d
    split at h
    ·rename_i hxk
     subst hxk
     injection h with h
     injection h with h1 h2
     subst h1 h2
     obtain ⟨q, q1, q2⟩ := ZaF.1 (hob (_, true) List.mem_cons_self)
     refine ⟨s, s.putK k c' t, ?_, rfl, rfl, rfl, rfl, fun p hp => hob p (List.mem_cons_of_mem _ hp)⟩
     unfold Zfe
     rw [hargs]
     simp only [ZfA, hk, q, if_true, Zdg, List.length_cons, List.length_nil, Nat.zero_add, Nat.ble_eq_true_of_le q1, ZS, Zf9, Bool.and_self, cond_true, q2]
    ·cases h
   ·rename_i xk x yk y
    split at h
    ·rename_i hxy
     obtain ⟨hxk, hyk⟩ := hxy
     subst hxk
     subst hyk
     generalize hs0 : s.told (dP (ZdD 1 (c.drop o) = some [.int _ z])) = s0 at h
     have e0 : s0.h = s.h := by rw [← hs0]; rfl
     have en : s0.n = s.n := by rw [← hs0]; rfl
     have em : (dP (ZdD 1 (c.drop o) = some [.int yk z]), true) ∈ s0.ob := by rw [← hs0]; exact List.mem_cons_self
     split at h
     ·rename_i s1 hs
      injection h with h
      injection h with h1 h2
      subst h1 h2
      have ho1 : ∀ p ∈ s1.ob, p.1 = p.2 := fun p hp => hob p (List.mem_cons_of_mem _ hp)
      obtain ⟨q1, q2⟩ := ZaF.1 (hob (_, true) List.mem_cons_self)
      obtain ⟨e1, e2, e3⟩ := ZrQ hs ho1
      have q := ZaF.1 (ho1 (_, true) ((Zkc hs).ob.subset em))
      refine ⟨s0, s1.putK k c' t, ?_, e0, en, rfl, rfl, ho1⟩
      unfold Zfe
      rw [hargs]
      have hk1 : s1.h.get k = some (.cells c t) := by rw [e2, e0]; exact hk
      simp only [ZfA, e0, hk, q, and_self, if_true, hs, Zdg, hk1, List.length_cons, List.length_nil, Nat.zero_add, Nat.ble_eq_true_of_le q1, ZS, Zf9, Bool.and_self, cond_true, q2]
     ·rename_i s1 hs
      injection h with h
      injection h with h1 h2
      subst h1 h2
      have q := ZaF.1 (hob (_, true) ((Zkc hs).ob.subset em))
      refine ⟨s0, s1, ?_, e0, en, rfl, rfl, hob⟩
      unfold Zfe
      rw [hargs]
      simp only [ZfA, e0, hk, q, and_self, if_true, hs]
    ·cases h
   ·cases h
  ·cases h
 ·cases h
end
end Ev
end Go.Proofs.YtgpekgedjmhmeaaGreat
/- A region that draws its order: what is elsewhere stays, and which operations may change places. -/
namespace Go.Proofs.YtgpekgedjmhmeaaGreat
open Go.RowKit
namespace Ev
section
variable {P : Program} {ext : FuncId → Option Ext}

/-! ### What an operation turns -/
noncomputable def Dk (r : Rec) (k : Nat) : Bool := (r.w && ZpZ k r.t) || (Nat.ble r.n0 k && Nat.blt k r.n1)
noncomputable def Kof (e : Ent) : AH := if e.r.small then (Znz e.s.h (e.r.t ++ e.r.q)).get else e.s.h.get
noncomputable def Zw4 (e : Ent) : AH := fun k => if Dk e.r k then e.s'.h.get k else Kof e k
theorem ZjI {k : Nat} : ∀ {l : List Nat}, ZpZ k l = true ↔ k ∈ l
 | [] => by simp [ZpZ]
 | x :: l => by
  simp only [ZpZ, Bool.or_eq_true, List.mem_cons, ZjI (l := l)]
  constructor
  ·rintro (h | h)
   ·exact .inl (Nat.eq_of_beq_eq_true h)
   ·exact .inr h
  ·rintro (h | h)
   ·exact .inl (ZkY h)
   ·exact .inr h
theorem Zvn {α : Type} {p : α → Bool} : ∀ {l : List α}, (∀ x ∈ l, p x = true) → ZS p l = true
 | [], _ => rfl
 | x :: l, h => by simp [ZS, h x (by simp), Zvn (l := l) fun y hy => h y (by simp [hy])]
theorem ZfS {a b : List Nat} (h : ZjY a b = true) {k : Nat} (ha : k ∈ a) (hb : k ∈ b) : False := by
 have := Za8 h k ha
 rw [ZjI.2 hb] at this
 cases this
theorem ZhH {n0 n1 : Nat} {l : List Nat} (h : ZrP n0 n1 l = true) {k : Nat} (hk : k ∈ l) (h1 : n0 ≤ k) (h2 : k < n1) : False := by
 have := Za8 h k hk
 rw [Nat.ble_eq_true_of_le h1, show Nat.blt k n1 = true from Nat.ble_eq_true_of_le h2] at this
 cases this
theorem ZhI {r : Rec} {k : Nat} : Dk r k = true ↔ (r.w = true ∧ k ∈ r.t) ∨ (r.n0 ≤ k ∧ k < r.n1) := by
 unfold Dk
 simp only [Bool.or_eq_true, Bool.and_eq_true, ZjI]
 constructor
 ·rintro (h | ⟨h1, h2⟩)
  ·exact .inl h
  ·exact .inr ⟨Nat.le_of_ble_eq_true h1, Nat.le_of_ble_eq_true h2⟩
 ·rintro (h | ⟨h1, h2⟩)
  ·exact .inl h
  ·exact .inr ⟨Nat.ble_eq_true_of_le h1, Nat.ble_eq_true_of_le h2⟩
structure ZuU (r : Rec) : Prop where
 lt : ∀ k ∈ r.t, k < r.n0
 ltq : ∀ k ∈ r.q, k < r.n0
 le : r.n0 ≤ r.n1
 big : r.small = false → r.w = true
noncomputable def Zw5 (a b : Rec) : Prop := (a.small = true → ∀ k ∈ a.t ++ a.q, Dk b k = false) ∧ (a.small = false → ∀ k, k < a.n0 → Dk b k = false)
theorem Zxu {a b : Rec} (h : ZuK a b = true) (ha : ZuU a) (hb : ZuU b) (hab : a.n1 ≤ b.n0) : Zw5 a b ∧ Zw5 b a ∧ ∀ k, Dk a k = true → Dk b k = true → False := by
 have la := ha.le
 have lb := hb.le
 unfold ZuK at h
 have nd : ∀ {r : Rec} {k : Nat}, ¬ ((r.w = true ∧ k ∈ r.t) ∨ (r.n0 ≤ k ∧ k < r.n1)) → Dk r k = false := fun {r k} hn => by
  cases hd : Dk r k
  ·rfl
  ·exact absurd (ZhI.1 hd) hn
 split at h
 ·rename_i h1 h2
  simp only [Bool.and_eq_true, Bool.or_eq_true] at h
  obtain ⟨⟨hw, hn⟩, ⟨hq1, hq2⟩, hnq⟩ := h
  have conf : ∀ k, k ∈ a.t → k ∈ b.t → a.w = true ∨ b.w = true → False := fun k k1 k2 k3 => by
   rcases hw with hw | hw
   ·rcases k3 with k3 | k3 <;> rw [k3] at hw <;> simp at hw
   ·exact ZfS hw k1 k2
  refine ⟨⟨fun _ k hk => nd ?_, fun e => absurd (h1.symm.trans e) (by decide)⟩, ⟨fun _ k hk => nd ?_, fun e => absurd (h2.symm.trans e) (by decide)⟩, fun k k1 k2 => ?_⟩
  ·rcases List.mem_append.1 hk with hk | hk
   ·rintro (⟨q1, q2⟩ | ⟨q1, q2⟩)
    ·exact conf k hk q2 (.inr q1)
    ·have := ha.lt k hk; omega
   ·rintro (⟨q1, q2⟩ | ⟨q1, q2⟩)
    ·rcases hq1 with h | h
     ·rw [q1] at h; simp at h
     ·exact ZfS h hk q2
    ·have := ha.ltq k hk; omega
  ·rcases List.mem_append.1 hk with hk | hk
   ·rintro (⟨q1, q2⟩ | ⟨q1, q2⟩)
    ·exact conf k q2 hk (.inl q1)
    ·exact ZhH hn hk q1 q2
   ·rintro (⟨q1, q2⟩ | ⟨q1, q2⟩)
    ·rcases hq2 with h | h
     ·rw [q1] at h; simp at h
     ·exact ZfS h q2 hk
    ·exact ZhH hnq hk q1 q2
  ·rcases ZhI.1 k1 with ⟨q1, q2⟩ | ⟨q1, q2⟩ <;> rcases ZhI.1 k2 with ⟨r1, r2⟩ | ⟨r1, r2⟩
   ·exact conf k q2 r2 (.inl q1)
   ·have := ha.lt k q2; omega
   ·exact ZhH hn r2 q1 q2
   ·omega
 ·rename_i h1 h2
  simp only [Bool.and_eq_true, Bool.not_eq_true'] at h
  obtain ⟨⟨⟨hw, hn⟩, hap⟩, haq⟩ := h
  have hn' : a.n0 = a.n1 := Nat.eq_of_beq_eq_true hn
  have na : ∀ k, Dk a k = false := fun k => nd (by
   rintro (⟨q1, q2⟩ | ⟨q1, q2⟩)
   ·rw [hw] at q1; cases q1
   ·omega)
  refine ⟨⟨fun _ k hk => nd ?_, fun e => absurd (h1.symm.trans e) (by decide)⟩, ⟨fun e => absurd (h2.symm.trans e) (by decide), fun _ k _ => na k⟩, fun k k1 _ => by rw [na k] at k1; cases k1⟩
  rcases List.mem_append.1 hk with hk | hk
  ·rintro (⟨q1, q2⟩ | ⟨q1, q2⟩)
   ·exact ZfS hap hk q2
   ·have := ha.lt k hk; omega
  ·rintro (⟨q1, q2⟩ | ⟨q1, q2⟩)
   ·exact ZfS haq hk q2
   ·have := ha.ltq k hk; omega
 ·rename_i h1 h2
  simp only [Bool.and_eq_true, Bool.not_eq_true'] at h
  obtain ⟨⟨⟨hw, hap⟩, hn⟩, haq, hnq⟩ := h
  refine ⟨⟨fun e => absurd (h1.symm.trans e) (by decide), fun _ k hk => nd ?_⟩, ⟨fun _ k hk => nd ?_, fun e => absurd (h2.symm.trans e) (by decide)⟩, fun k k1 k2 => ?_⟩
  ·rintro (⟨q1, q2⟩ | ⟨q1, q2⟩)
   ·rw [hw] at q1; cases q1
   ·omega
  ·rcases List.mem_append.1 hk with hk | hk
   ·rintro (⟨q1, q2⟩ | ⟨q1, q2⟩)
    ·exact ZfS hap q2 hk
    ·exact ZhH hn hk q1 q2
   ·rintro (⟨q1, q2⟩ | ⟨q1, q2⟩)
    ·exact ZfS haq q2 hk
    ·exact ZhH hnq hk q1 q2
  ·rcases ZhI.1 k2 with ⟨r1, r2⟩ | ⟨r1, r2⟩
   ·rw [hw] at r1; cases r1
   ·rcases ZhI.1 k1 with ⟨q1, q2⟩ | ⟨q1, q2⟩
    ·have := ha.lt k q2; omega
    ·omega
 ·cases h
end
end Ev
end Go.Proofs.YtgpekgedjmhmeaaGreat
/- A region that draws its order: what the run in the text's order tells. -/
namespace Go.Proofs.YtgpekgedjmhmeaaGreat
open Go.RowKit
namespace Ev
section
variable {P : Program} {ext : FuncId → Option Ext}

structure EntOk (P : Program) (ext : FuncId → Option Ext) (nt fu : Nat) (ops : Array Oper) (before : List Ent) (T T' : Tr Value) (s s' : St) (e : Ent) : Prop where
 eT : e.T = T
 eT' : T' = ZfQ T e.o.dst e.v
 es' : s' = e.s'
 dst : ZhQ nt e.o.dst = true
 good : ZS ZhF e.o.op.operands.toList = true
 edges : Zpy before.length e.o.after.toList = true
 em : e.m = Zek before e.o.after.toList
 pairs : ZlB ops e.o e.r e.m 0 before = true
 run : ∃ b, ZgD ops T e.o s = some (b, e.s) ∧ (b = true → ∃ fu', fu' < fu ∧ Zl4 P ext fu' (opnd (ZsG T (Zi8 e.o.op.operands.toList))) e.o e.s = some (e.v, e.s', e.r)) ∧ (b = false → e.v = undef ∧ e.s' = e.s ∧ e.r = ZlU e.s)
theorem EntOk.fuel {nt fu fu1 : Nat} {ops : Array Oper} {before : List Ent} {T T' : Tr Value} {s s' : St} {e : Ent} (h : EntOk P ext nt fu ops before T T' s s' e) (hf : fu ≤ fu1) : EntOk P ext nt fu1 ops before T T' s s' e :=
 ⟨h.eT, h.eT', h.es', h.dst, h.good, h.edges, h.em, h.pairs, by
  obtain ⟨b, h1, h2, h3⟩ := h.run
  exact ⟨b, h1, fun hb => (by obtain ⟨fu', h4, h5⟩ := h2 hb; exact ⟨fu', Nat.lt_of_lt_of_le h4 hf, h5⟩), h3⟩⟩
theorem ZuV (nt : Nat) (ops : Array Oper) : ∀ (fu : Nat) (l : List Oper) (done : List Ent) (T : Tr Value) (s : St) (es : List Ent) (T' : Tr Value) (s' : St), ZfB P ext nt fu ops done l T s = some (es, T', s') →
  ∃ (es2 : List Ent) (σ : Nat → St) (τ : Nat → Tr Value), es = done ++ es2 ∧ es2.map (·.o) = l ∧ σ 0 = s ∧ τ 0 = T ∧ σ l.length = s' ∧ τ l.length = T' ∧
   ∀ (i : Nat) (e : Ent), es2[i]? = some e → EntOk P ext nt fu ops (done ++ es2.take i) (τ i) (τ (i + 1)) (σ i) (σ (i + 1)) e
 | 0, _, _, _, _, _, _, _, h => by simp [ZfB, St.keep_eq] at h
 | fu + 1, [], done, T, s, es, T', s', h => by
  simp only [ZfB, St.keep_eq] at h
  injection h with h
  simp only [Prod.mk.injEq] at h
  obtain ⟨rfl, rfl, rfl⟩ := h
  exact ⟨[], fun _ => s, fun _ => T, by simp, rfl, rfl, rfl, rfl, rfl, fun i e hi => by simp at hi⟩
 | fu + 1, o :: l, done, T, s, es, T', s', h => by
  simp only [ZfB, St.keep_eq] at h
  obtain ⟨hg, h⟩ := Zo h
  simp only [Bool.and_eq_true] at hg
  have go : ∀ (e1 : Ent), EntOk P ext nt (fu + 1) ops done T (ZfQ T e1.o.dst e1.v) s e1.s' e1 → e1.o = o → ZfB P ext nt fu ops (done ++ [e1]) l (ZfQ T e1.o.dst e1.v) e1.s' = some (es, T', s') →
    ∃ (es2 : List Ent) (σ : Nat → St) (τ : Nat → Tr Value), es = done ++ es2 ∧ es2.map (·.o) = o :: l ∧ σ 0 = s ∧ τ 0 = T ∧ σ (o :: l).length = s' ∧ τ (o :: l).length = T' ∧
     ∀ (i : Nat) (e : Ent), es2[i]? = some e → EntOk P ext nt (fu + 1) ops (done ++ es2.take i) (τ i) (τ (i + 1)) (σ i) (σ (i + 1)) e := fun e1 hok ho hrec => by
   obtain ⟨es2, σ, τ, h1, h2, h3, h4, h5, h6, h7⟩ := ZuV nt ops fu l _ _ _ es T' s' hrec
   refine ⟨e1 :: es2, fun i => match i with | 0 => s | i + 1 => σ i, fun i => match i with | 0 => T | i + 1 => τ i, by rw [h1]; simp, by simp [h2, ho], rfl, rfl, by simpa using h5, by simpa using h6, fun i e hi => ?_⟩
   cases i with
   | zero =>
    simp at hi
    subst hi
    simp only [List.take_zero, List.append_nil, h3, h4]
    exact hok
   | succ i =>
    have := (h7 i e (by simpa using hi)).fuel (Nat.le_succ fu)
    simpa using this
  split at h
  ·rename_i s1 hw
   split at h
   ·rename_i v s2 r hv
    obtain ⟨hp, h⟩ := Zo h
    exact go ⟨o, Zek done o.after.toList, r, T, s1, v, s2⟩ ⟨rfl, rfl, rfl, hg.1.1, hg.1.2, hg.2, rfl, hp, true, hw, fun _ => ⟨fu, Nat.lt_succ_self _, hv⟩, (fun e => by cases e)⟩ rfl h
   ·cases h
  ·rename_i s1 hw
   obtain ⟨hp, h⟩ := Zo h
   exact go ⟨o, Zek done o.after.toList, ZlU s1, T, s1, undef, s1⟩ ⟨rfl, rfl, rfl, hg.1.1, hg.1.2, hg.2, rfl, hp, false, hw, (fun e => by cases e), fun _ => ⟨rfl, rfl, rfl⟩⟩ rfl h
  ·cases h

/-! ### Which operations stand ahead -/
theorem Zsb {i : Nat} : ∀ {l : List Edge}, Zpy i l = true → ∀ e ∈ l, Region.binds .any e = true → e.on < i
 | [], _, e, he => by cases he
 | d :: l, h, e, he => by
  simp only [Zpy, Bool.and_eq_true, Bool.or_eq_true, Bool.not_eq_true'] at h
  rcases List.mem_cons.1 he with rfl | he
  ·intro hb
   rcases h.1 with h1 | h1
   ·rw [hb] at h1; cases h1
   ·exact Nat.le_of_ble_eq_true h1
  ·exact Zsb h.2 e he
theorem ZoE {before : List Ent} {j : Nat} : ∀ {l : List Edge}, (Zek before l).testBit j = true → ∃ e ∈ l, Region.binds .any e = true ∧ (e.on = j ∨ ∃ d, before[e.on]? = some d ∧ d.m.testBit j = true)
 | [], h => by simp [Zek] at h
 | d :: l, h => by
  simp only [Zek] at h
  cases hb : Region.binds .any d with
  | false =>
   rw [hb] at h
   obtain ⟨e, h1, h2⟩ := ZoE (l := l) (by simpa using h)
   exact ⟨e, List.mem_cons_of_mem _ h1, h2⟩
  | true =>
   rw [hb] at h
   simp only [cond_true, Nat.testBit_or, Bool.or_eq_true] at h
   rcases h with (h | h) | h
   ·rw [Nat.testBit_two_pow] at h
    exact ⟨d, by simp, hb, .inl (by simpa using h)⟩
   ·refine ⟨d, by simp, hb, .inr ?_⟩
    split at h
    ·exact ⟨_, by assumption, h⟩
    ·simp at h
   ·obtain ⟨e, h1, h2⟩ := ZoE (l := l) h
    exact ⟨e, List.mem_cons_of_mem _ h1, h2⟩
theorem Zsc {ops : Array Oper} {o : Oper} {r : Rec} {m : Nat} : ∀ {l : List Ent} {j : Nat}, ZlB ops o r m j l = true → ∀ (i : Nat) (d : Ent), l[i]? = some d → m.testBit (j + i) = true ∨ (Oper.apart ops d.o o = true ∧ ZuK d.r r = true)
 | [], j, _, i, d, hd => by simp at hd
 | x :: l, j, h, i, d, hd => by
  simp only [ZlB, Bool.and_eq_true, Bool.or_eq_true] at h
  cases i with
  | zero =>
   simp at hd
   subst hd
   rcases h.1 with h1 | h1
   ·exact .inl (by simpa using h1)
   ·exact .inr h1
  | succ i =>
   have := Zsc h.2 i d (by simpa using hd)
   rwa [show j + 1 + i = j + (i + 1) by omega] at this
def Zvo (es : List Ent) (L : Nat → Bool) : Prop := ∀ (i : Nat) (e : Ent), es[i]? = some e → L i = true → ∀ d ∈ e.o.after.toList, Region.binds .any d = true → L d.on = true
theorem ZtD {es : List Ent} {L : Nat → Bool} (hc : Zvo es L) (hm : ∀ (i : Nat) (e : Ent), es[i]? = some e → e.m = Zek (es.take i) e.o.after.toList) {j : Nat} :
  ∀ (i : Nat) (e : Ent), es[i]? = some e → (∀ d ∈ e.o.after.toList, Region.binds .any d = true → L d.on = true) → e.m.testBit j = true → L j = true := by
 intro i
 induction i using Nat.strongRecOn with
 | _ i ih =>
  intro e he hr hb
  rw [hm i e he] at hb
  obtain ⟨d, hd, hbd, h1 | ⟨x, hx, hxb⟩⟩ := ZoE hb
  ·rw [← h1]; exact hr d hd hbd
  ·have hlt : d.on < i := by
    have := (List.getElem?_eq_some_iff.1 hx).1
    rw [List.length_take] at this
    omega
   rw [List.getElem?_take_of_lt hlt] at hx
   exact ih d.on hlt x hx (hc d.on x hx (hr d hd hbd)) hxb
end
end Ev
end Go.Proofs.YtgpekgedjmhmeaaGreat
/- A region that draws its order: in whatever order its edges allow. -/
namespace Go.Proofs.YtgpekgedjmhmeaaGreat
open Go.RowKit
namespace Ev
section
variable {β : Type}
noncomputable def ovf (L D : Nat → Bool) (V : Nat → β) (x0 : β) : Nat → β
  | 0 => x0
  | p + 1 => if L p && D p then V p else ovf L D V x0 p
noncomputable def ZeJ (L : Nat → Bool) (i : Nat) : Nat → Bool := fun j => if j = i then true else L j
theorem Zn4 {L D : Nat → Bool} {V S : Nat → β} (i n : Nat) (hi : i ≤ n) (hS : ∀ p, p < n → S (p + 1) = if D p then V p else S p) (h1 : ∀ p, p < i → L p = false → D p = false) (h2 : ∀ p, i ≤ p → p < n → L p = true → D p = false) :
    ovf L D V (S 0) n = S i := by
  have A : ∀ p, p ≤ i → ovf L D V (S 0) p = S p := by
    intro p
    induction p with
    | zero => intro _; rfl
    | succ p ih =>
      intro hp
      rw [ovf, ih (by omega), hS p (by omega)]
      cases hL : L p with
      | true => simp
      | false => rw [h1 p (by omega) hL]; simp
  have B : ∀ p, i ≤ p → p ≤ n → ovf L D V (S 0) p = S i := by
    intro p
    induction p with
    | zero => intro h _; obtain rfl : i = 0 := by omega
              rfl
    | succ p ih =>
      intro h hp
      by_cases he : i = p + 1
      · rw [he]; exact A (p + 1) (by omega)
      · rw [ovf, ih (by omega) (by omega)]
        cases hL : L p with
        | true => rw [h2 p (by omega) (by omega) hL]; simp
        | false => simp
  exact B n hi (Nat.le_refl _)
theorem Zx7 {L D : Nat → Bool} {V : Nat → β} {x0 : β} (i n : Nat) (hi : i < n) (hL : L i = false) (h : ∀ p, i < p → p < n → L p = true → D p = true → D i = false) :
    ovf (ZeJ L i) D V x0 n = if D i then V i else ovf L D V x0 n := by
  have A : ∀ p, p ≤ i → ovf (ZeJ L i) D V x0 p = ovf L D V x0 p := by
    intro p
    induction p with
    | zero => intro _; rfl
    | succ p ih =>
      intro hp
      rw [ovf, ovf, ih (by omega)]
      have : ZeJ L i p = L p := by unfold ZeJ; rw [if_neg (by omega)]
      rw [this]
  have B : ∀ p, i < p → p ≤ n → ovf (ZeJ L i) D V x0 p = if D i then V i else ovf L D V x0 p := by
    intro p
    induction p with
    | zero => intro h _; omega
    | succ p ih =>
      intro hp hn
      by_cases he : p = i
      · subst he
        rw [ovf, ovf, A p (Nat.le_refl _), hL]
        have : ZeJ L p p = true := by simp [ZeJ]
        rw [this]
        simp
      · rw [ovf, ovf, ih (by omega) (by omega)]
        have : ZeJ L i p = L p := by unfold ZeJ; rw [if_neg he]
        rw [this]
        cases hLp : L p with
        | false => simp
        | true =>
          cases hD : D p with
          | false => simp
          | true => rw [h p (by omega) (by omega) hLp hD]; simp
  exact B n hi (Nat.le_refl _)
end
section
variable {P : Program} {ext : FuncId → Option Ext}

noncomputable def ZoF (es : List Ent) (k p : Nat) : Bool := match es[p]? with | some e => Dk e.r k | none => false
noncomputable def Zw6 (es : List Ent) (k p : Nat) : Option AObj := match es[p]? with | some e => e.s'.h.get k | none => none
noncomputable def HL (es : List Ent) (L : Nat → Bool) (s : St) : AH := fun k => ovf L (ZoF es k) (Zw6 es k) (s.h.get k) es.length
noncomputable def Zsd (es : List Ent) (t p : Nat) : Bool := match es[p]? with | some e => e.o.dst == some t | none => false
noncomputable def Zw7 (es : List Ent) (p : Nat) : Option Value := match es[p]? with | some e => some e.v | none => none
noncomputable def TL (es : List Ent) (L : Nat → Bool) (T : Tr Value) : Nat → Option Value := fun t => ovf L (Zsd es t) (Zw7 es) (T.get t) es.length
structure Ctx (P : Program) (ext : FuncId → Option Ext) (nt fu : Nat) (ops : Array Oper) (es : List Ent) (σ : Nat → St) (τ : Nat → Tr Value) : Prop where
  len : es.length = ops.size
  op : ∀ (i : Nat) (e : Ent), es[i]? = some e → ops[i]? = some e.o
  ok : ∀ (i : Nat) (e : Ent), es[i]? = some e → EntOk P ext nt fu ops (es.take i) (τ i) (τ (i + 1)) (σ i) (σ (i + 1)) e
  rok : ∀ (i : Nat) (e : Ent), es[i]? = some e → ZuU e.r ∧ e.r.n0 = (σ i).n ∧ e.r.n1 = (σ (i + 1)).n ∧ (∀ k, Dk e.r k = false → (σ (i + 1)).h.get k = (σ i).h.get k) ∧ e.s.h = (σ i).h
  old : ∀ k, ((σ 0).h.get k).isSome → ¬ ((σ 0).n ≤ k ∧ k < (σ es.length).n)
  sem : ∀ (i : Nat) (e : Ent), es[i]? = some e → ∀ (ι : Ren) (w : World) (a : Act) (K : Act → World → Prop) (Q : Exit → Act → World → Prop), (∀ t ∈ e.o.looksAt ops, VR ι (((τ i).get t).getD undef) (a.tmps.getD t undef)) → Emb P ι (Kof e) w → Fresh ι (σ i).n (σ (i + 1)).n →
    (∀ v' w' ι', Step P ι (Kof e) w ι' (Zw4 e) w' → Dom ι ι' (σ i).n (σ (i + 1)).n → VR ι' e.v v' → K (a.put e.o.dst v') w') → wpOp P ops Q i K a w
variable {nt fu : Nat} {ops : Array Oper} {es : List Ent} {σ : Nat → St} {τ : Nat → Tr Value}
theorem Ctx.get (C : Ctx P ext nt fu ops es σ τ) {i : Nat} (hi : i < es.length) : ∃ e, es[i]? = some e := ⟨_, List.getElem?_eq_getElem hi⟩
theorem Ctx.mono (C : Ctx P ext nt fu ops es σ τ) : ∀ {i j : Nat}, i ≤ j → j ≤ es.length → (σ i).n ≤ (σ j).n := by
  intro i j
  induction j with
  | zero => intro h _; obtain rfl : i = 0 := by omega
            exact Nat.le_refl _
  | succ j ih =>
    intro h hj
    by_cases he : i = j + 1
    · subst he; exact Nat.le_refl _
    · obtain ⟨e, hee⟩ := C.get (i := j) (by omega)
      obtain ⟨r1, r2, r3, _⟩ := C.rok j e hee
      have := r1.le
      exact Nat.le_trans (ih (by omega) (by omega)) (by omega)
theorem Ctx.chainH (C : Ctx P ext nt fu ops es σ τ) (k p : Nat) (hp : p < es.length) : (σ (p + 1)).h.get k = if ZoF es k p then Zw6 es k p else (σ p).h.get k := by
  obtain ⟨e, he⟩ := C.get hp
  obtain ⟨_, _, _, r4, _⟩ := C.rok p e he
  have hs := (C.ok p e he).es'
  unfold ZoF Zw6
  rw [he]
  simp only
  cases hd : Dk e.r k with
  | true => simp [hs]
  | false => simpa using r4 k hd
theorem Ctx.chainT (C : Ctx P ext nt fu ops es σ τ) (t p : Nat) (hp : p < es.length) : (τ (p + 1)).get t = if Zsd es t p then Zw7 es p else (τ p).get t := by
  obtain ⟨e, he⟩ := C.get hp
  have hs := (C.ok p e he).eT'
  unfold Zsd Zw7
  rw [he, hs]
  simp only
  cases hd : e.o.dst with
  | none => simp [ZfQ]
  | some d =>
    simp only [ZfQ, Tr.get_set]
    by_cases ht : t = d
    · subst ht; simp [Zy]
    · rw [Zn ht]
      have : ((some d : Option Nat) == some t) = false := by simpa using fun e => ht e.symm
      rw [this]
      simp
theorem Ctx.dk_lt (C : Ctx P ext nt fu ops es σ τ) {p k : Nat} {e : Ent} (he : es[p]? = some e) (hd : Dk e.r k = true) : k < (σ (p + 1)).n := by
  obtain ⟨r1, r2, r3, _⟩ := C.rok p e he
  rcases ZhI.1 hd with ⟨_, h⟩ | ⟨_, h⟩
  · have := r1.lt k h; have := r1.le; omega
  · omega
theorem Ctx.pair (C : Ctx P ext nt fu ops es σ τ) {i j : Nat} {d e : Ent} (hij : i < j) (hd : es[i]? = some d) (he : es[j]? = some e) : e.m.testBit i = true ∨ (Oper.apart ops d.o e.o = true ∧ Zw5 d.r e.r ∧ Zw5 e.r d.r ∧ ∀ k, Dk d.r k = true → Dk e.r k = true → False) := by
  have hj : j < es.length := (List.getElem?_eq_some_iff.1 he).1
  rcases Zsc (C.ok j e he).pairs i d (by rw [List.getElem?_take_of_lt hij]; exact hd) with h | ⟨h1, h2⟩
  · exact .inl (by simpa using h)
  · obtain ⟨r1, r2, r3, _⟩ := C.rok i d hd
    obtain ⟨q1, q2, q3, _⟩ := C.rok j e he
    exact .inr ⟨h1, Zxu h2 r1 q1 (by rw [r3, q2]; exact C.mono (by omega) (by omega))⟩
structure ZsI (es : List Ent) (L : Nat → Bool) (i : Nat) (e : Ent) : Prop where
  at_ : es[i]? = some e
  cl : Zvo es L
  not : L i = false
  deps : ∀ d ∈ e.o.after.toList, Region.binds .any d = true → L d.on = true
theorem Ctx.masks (C : Ctx P ext nt fu ops es σ τ) : ∀ (i : Nat) (e : Ent), es[i]? = some e → e.m = Zek (es.take i) e.o.after.toList := fun i e he => (C.ok i e he).em
theorem Ctx.loose (C : Ctx P ext nt fu ops es σ τ) {L : Nat → Bool} {i j : Nat} {e d : Ent} (R : ZsI es L i e) (hd : es[j]? = some d) (hne : j < i ∧ L j = false ∨ i < j ∧ L j = true) :
    (∀ t, d.o.dst = some t → t ∉ e.o.looksAt ops) ∧ (∀ t, d.o.dst = some t → e.o.dst ≠ some t) ∧ Zw5 e.r d.r ∧ ∀ k, Dk d.r k = true → Dk e.r k = true → False := by
  rcases hne with ⟨h1, h2⟩ | ⟨h1, h2⟩
  · rcases C.pair h1 hd R.at_ with h | ⟨g1, g2, g3, g4⟩
    · have := ZtD R.cl C.masks i e R.at_ R.deps h
      rw [h2] at this; cases this
    · obtain ⟨a1, a2, a3⟩ := Oper.apart_spec g1
      exact ⟨a1, a2, g3, g4⟩
  · rcases C.pair h1 R.at_ hd with h | ⟨g1, g2, g3, g4⟩
    · have := ZtD R.cl C.masks j d hd (R.cl j d hd h2) h
      rw [R.not] at this; cases this
    · obtain ⟨a1, a2, a3⟩ := Oper.apart_spec g1
      exact ⟨a3, fun t ht he => a2 t he ht, g2, fun k k1 k2 => g4 k k2 k1⟩
theorem Ctx.live (C : Ctx P ext nt fu ops es σ τ) : ∀ (i : Nat), i ≤ es.length → ∀ k, ((σ i).h.get k).isSome → ¬ ((σ i).n ≤ k ∧ k < (σ es.length).n) := by
  intro i
  induction i with
  | zero => intro _ k hk; exact C.old k hk
  | succ i ih =>
    intro hi k hk
    obtain ⟨e, he⟩ := C.get (i := i) (by omega)
    rw [C.chainH k i (by omega)] at hk
    have hd : ZoF es k i = Dk e.r k := by unfold ZoF; rw [he]
    rw [hd] at hk
    cases hdk : Dk e.r k with
    | true => have := C.dk_lt he hdk; omega
    | false =>
      rw [hdk] at hk
      have := ih (by omega) k (by simpa using hk)
      have := C.mono (i := i) (j := i + 1) (by omega) hi
      omega
theorem Ctx.agreeH (C : Ctx P ext nt fu ops es σ τ) {L : Nat → Bool} {i : Nat} {e : Ent} (R : ZsI es L i e) (k : Nat) (h1 : e.r.small = true → k ∈ e.r.t ++ e.r.q) (h2 : e.r.small = false → ¬ ((σ i).n ≤ k ∧ k < (σ es.length).n)) : HL es L (σ 0) k = (σ i).h.get k := by
  have hi : i < es.length := (List.getElem?_eq_some_iff.1 R.at_).1
  have key : ∀ p, p < es.length → (p < i ∧ L p = false ∨ i < p ∧ L p = true) → ZoF es k p = false := fun p hp hh => by
    obtain ⟨d, hd⟩ := C.get hp
    obtain ⟨_, _, g3, _⟩ := C.loose R hd hh
    unfold ZoF
    rw [hd]
    simp only
    cases hs : e.r.small with
    | true => exact g3.1 hs k (h1 hs)
    | false =>
      by_cases hk : k < e.r.n0
      · exact g3.2 hs k hk
      · cases hdk : Dk d.r k with
        | false => rfl
        | true =>
          exfalso
          have q := C.dk_lt hd hdk
          have := C.mono (i := p + 1) (j := es.length) (by omega) (Nat.le_refl _)
          have := (C.rok i e R.at_).2.1
          exact h2 hs ⟨by omega, by omega⟩
  exact Zn4 (S := fun p => (σ p).h.get k) i es.length (by omega) (fun p hp => C.chainH k p hp) (fun p hp hL => key p (by omega) (.inl ⟨hp, hL⟩)) (fun p hp hn hL => by
    by_cases he : p = i
    · subst he; rw [R.not] at hL; cases hL
    · exact key p hn (.inr ⟨by omega, hL⟩))
theorem Ctx.agreeT (C : Ctx P ext nt fu ops es σ τ) {L : Nat → Bool} {i : Nat} {e : Ent} (R : ZsI es L i e) (t : Nat) (ht : t ∈ e.o.looksAt ops) : TL es L (τ 0) t = (τ i).get t := by
  have hi : i < es.length := (List.getElem?_eq_some_iff.1 R.at_).1
  have key : ∀ p, p < es.length → (p < i ∧ L p = false ∨ i < p ∧ L p = true) → Zsd es t p = false := fun p hp hh => by
    obtain ⟨d, hd⟩ := C.get hp
    obtain ⟨g1, _⟩ := C.loose R hd hh
    unfold Zsd
    rw [hd]
    simp only
    cases hb : d.o.dst == some t with
    | false => rfl
    | true => exact absurd ht (g1 t (by simpa using hb))
  exact Zn4 (S := fun p => (τ p).get t) i es.length (by omega) (fun p hp => C.chainT t p hp) (fun p hp hL => key p (by omega) (.inl ⟨hp, hL⟩)) (fun p hp hn hL => by
    by_cases he : p = i
    · subst he; rw [R.not] at hL; cases hL
    · exact key p hn (.inr ⟨by omega, hL⟩))
theorem Ctx.addH (C : Ctx P ext nt fu ops es σ τ) {L : Nat → Bool} {i : Nat} {e : Ent} (R : ZsI es L i e) (k : Nat) : HL es (ZeJ L i) (σ 0) k = if Dk e.r k then e.s'.h.get k else HL es L (σ 0) k := by
  have hi : i < es.length := (List.getElem?_eq_some_iff.1 R.at_).1
  have := Zx7 (D := ZoF es k) (V := Zw6 es k) (x0 := (σ 0).h.get k) i es.length hi R.not fun p hp hn hL hD => by
    obtain ⟨d, hd⟩ := C.get hn
    obtain ⟨_, _, _, g4⟩ := C.loose R hd (.inr ⟨hp, hL⟩)
    unfold ZoF at hD ⊢
    rw [hd] at hD
    rw [R.at_]
    simp only at hD ⊢
    cases hdk : Dk e.r k with
    | false => rfl
    | true => exact (g4 k hD hdk).elim
  unfold HL
  rw [this]
  unfold ZoF Zw6
  rw [R.at_]
theorem Ctx.addT (C : Ctx P ext nt fu ops es σ τ) {L : Nat → Bool} {i : Nat} {e : Ent} (R : ZsI es L i e) (t : Nat) : TL es (ZeJ L i) (τ 0) t = if e.o.dst = some t then some e.v else TL es L (τ 0) t := by
  have hi : i < es.length := (List.getElem?_eq_some_iff.1 R.at_).1
  have := Zx7 (D := Zsd es t) (V := Zw7 es) (x0 := (τ 0).get t) i es.length hi R.not fun p hp hn hL hD => by
    obtain ⟨d, hd⟩ := C.get hn
    obtain ⟨_, g2, _⟩ := C.loose R hd (.inr ⟨hp, hL⟩)
    unfold Zsd at hD ⊢
    rw [hd] at hD
    rw [R.at_]
    simp only at hD ⊢
    cases hdk : e.o.dst == some t with
    | false => rfl
    | true => exact absurd (by simpa using hdk) (g2 t (by simpa using hD))
  unfold TL
  rw [this]
  unfold Zsd Zw7
  rw [R.at_]
  simp only
  by_cases hb : e.o.dst = some t
  · simp [hb]
  · have : (e.o.dst == some t) = false := by simpa using hb
    rw [this, if_neg hb]
    simp
end
end Ev
end Go.Proofs.YtgpekgedjmhmeaaGreat
/- A region that draws its order: any order comes to the same. -/
namespace Go.Proofs.YtgpekgedjmhmeaaGreat
open Go.RowKit
namespace Ev
section
variable {P : Program} {ext : FuncId → Option Ext}

theorem Zse {ops : Array Oper} {listed : Array Bool} (hs : listed.size = ops.size) {i : Nat} : i ∈ Region.ready .any ops listed ↔ ∃ o, ops[i]? = some o ∧ listed.getD i false = false ∧ ∀ d ∈ o.after.toList, Region.binds .any d = true → listed.getD d.on false = true := by
 unfold Region.ready
 rw [List.mem_filter]
 simp only [List.mem_range, Bool.and_eq_true, Bool.not_eq_true']
 constructor
 ·rintro ⟨hi, h1, h2⟩
  have ho : ops[i]? = some ops[i] := Array.getElem?_eq_getElem hi
  rw [ho] at h2
  simp only [Option.map_some, Option.getD_some, Array.all_eq_true', Bool.or_eq_true, Bool.not_eq_true'] at h2
  refine ⟨ops[i], ho, ?_, fun d hd hb => ?_⟩
  ·have hl : i < listed.size := by omega
   simpa [Array.getD, hl] using h1
  ·rcases h2 d (by simpa using hd) with h | h
   ·rw [hb] at h; cases h
   ·exact h
 ·rintro ⟨o, ho, h1, h2⟩
  have hi : i < ops.size := (Array.getElem?_eq_some_iff.1 ho).1
  have hl : i < listed.size := by omega
  refine ⟨hi, by simpa [Array.getD, hl] using h1, ?_⟩
  rw [ho]
  simp only [Option.map_some, Option.getD_some, Array.all_eq_true', Bool.or_eq_true, Bool.not_eq_true']
  intro d hd
  cases hb : Region.binds .any d with
  | false => exact .inl rfl
  | true => exact .inr (h2 d (by simpa using hd) hb)
def cnt (L : Nat → Bool) : Nat → Nat
 | 0 => 0
 | p + 1 => cnt L p + if L p then 0 else 1
theorem Zx8 {L : Nat → Bool} {i : Nat} (hL : L i = false) : ∀ p, (p ≤ i → cnt (ZeJ L i) p = cnt L p) ∧ (i < p → cnt (ZeJ L i) p + 1 = cnt L p)
 | 0 => ⟨fun _ => rfl, fun h => by omega⟩
 | p + 1 => by
  obtain ⟨h1, h2⟩ := Zx8 hL p
  refine ⟨fun h => ?_, fun h => ?_⟩
  ·have : ZeJ L i p = L p := by unfold ZeJ; rw [if_neg (by omega)]
   rw [cnt, cnt, h1 (by omega), this]
  ·by_cases he : p = i
   ·subst he
    have : ZeJ L p p = true := by simp [ZeJ]
    rw [cnt, cnt, h1 (Nat.le_refl _), this, hL]
    simp
   ·have : ZeJ L i p = L p := by unfold ZeJ; rw [if_neg he]
    rw [cnt, cnt, this]
    have := h2 (by omega)
    omega
theorem Zw8 {L : Nat → Bool} : ∀ p, cnt L p = 0 → ∀ j, j < p → L j = true
 | 0, _, j, hj => by omega
 | p + 1, h, j, hj => by
  rw [cnt] at h
  by_cases he : j = p
  ·subst he
   cases hL : L j with
   | true => rfl
   | false => rw [hL] at h; simp at h
  ·exact Zw8 p (by omega) j (by omega)
theorem ZtK {a : Act} {dst : Option Tmp} {nt : Nat} (hs : a.tmps.size = nt) (hd : ZhQ nt dst = true) (v : Value) (t : Nat) : (a.put dst v).tmps.getD t undef = if dst = some t then v else a.tmps.getD t undef := by
 cases dst with
 | none => simp [Act.put]
 | some d =>
  have hlt : d < a.tmps.size := by rw [hs]; simpa [ZhQ, Nat.blt_eq] using hd
  simp only [Act.put]
  by_cases ht : d = t
  ·subst ht
   simp [Array.getD, hlt]
  ·have : ¬ (some d = some t) := by simpa using ht
   rw [if_neg this]
   simp [Array.getD_eq_getD_getElem?, Array.getElem?_setIfInBounds_ne ht]
variable {nt fu : Nat} {ops : Array Oper} {es : List Ent} {σ : Nat → St} {τ : Nat → Tr Value}
structure Inv (P : Program) (nt : Nat) (D : List Deferred) (es : List Ent) (σ : Nat → St) (τ : Nat → Tr Value) (ι0 : Ren) (w0 : World) (L : Nat → Bool) (a : Act) (w : World) (ι : Ren) : Prop where
 step : Step P ι0 (σ 0).h.get w0 ι (HL es L (σ 0)) w
 dom : ∀ k, ι k ≠ none → ι0 k ≠ none ∨ far ≤ k ∨ ∃ j, L j = true ∧ j < es.length ∧ (σ j).n ≤ k ∧ k < (σ (j + 1)).n
 size : a.tmps.size = nt
 defers : a.defers = D
 temps : ∀ t, VR ι ((TL es L (τ 0) t).getD undef) (a.tmps.getD t undef)
theorem Ctx.order {D : List Deferred} (C : Ctx P ext nt fu ops es σ τ) {ι0 : Ren} {w0 : World} (hf : Fresh ι0 (σ 0).n (σ es.length).n) {Q : Exit → Act → World → Prop}
  (hQ : ∀ ι a w, Step P ι0 (σ 0).h.get w0 ι (σ es.length).h.get w → Dom ι0 ι (σ 0).n (σ es.length).n → TR ι nt D (τ es.length) a → Q .normal a w) :
  ∀ (fuel : Nat) (listed : Array Bool) (a : Act) (w : World) (ι : Ren), listed.size = ops.size → cnt (fun j => listed.getD j false) es.length ≤ fuel → Zvo es (fun j => listed.getD j false) → Inv P nt D es σ τ ι0 w0 (fun j => listed.getD j false) a w ι →
   wpAny P .any ops Q fuel listed a w := by
 -- all are listed
 have fin : ∀ (listed : Array Bool) (a : Act) (w : World) (ι : Ren), (∀ j, j < es.length → listed.getD j false = true) → Inv P nt D es σ τ ι0 w0 (fun j => listed.getD j false) a w ι → Q .normal a w := fun listed a w ι hall I => by
  have hH : HL es (fun j => listed.getD j false) (σ 0) = (σ es.length).h.get := funext fun k =>
   Zn4 (S := fun p => (σ p).h.get k) es.length es.length (Nat.le_refl _) (fun p hp => C.chainH k p hp) (fun p hp hL => by rw [hall p hp] at hL; cases hL) (fun p h1 h2 => by omega)
  have hT : ∀ t, TL es (fun j => listed.getD j false) (τ 0) t = (τ es.length).get t := fun t =>
   Zn4 (S := fun p => (τ p).get t) es.length es.length (Nat.le_refl _) (fun p hp => C.chainT t p hp) (fun p hp hL => by rw [hall p hp] at hL; cases hL) (fun p h1 h2 => by omega)
  refine hQ ι a w (hH ▸ I.step) (fun k hk => ?_) ⟨I.size, I.defers, fun t => hT t ▸ I.temps t⟩
  rcases I.dom k hk with h | h | ⟨j, _, hj, h1, h2⟩
  ·exact .inl h
  ·exact .inr (.inr h)
  ·have := C.mono (i := 0) (j := j) (by omega) (by omega)
   have := C.mono (i := j + 1) (j := es.length) (by omega) (Nat.le_refl _)
   exact .inr (.inl ⟨by omega, by omega⟩)
 have none_ready : ∀ (listed : Array Bool), listed.size = ops.size → Region.ready .any ops listed = [] → ∀ j, j < es.length → listed.getD j false = true := fun listed hs hr => by
  intro j
  induction j using Nat.strongRecOn with
  | _ j ih =>
   intro hj
   obtain ⟨e, he⟩ := C.get hj
   cases hL : listed.getD j false with
   | true => rfl
   | false =>
    exfalso
    have hm : j ∈ Region.ready .any ops listed := (Zse hs).2 ⟨e.o, C.op j e he, hL, fun d hd hb => by
     have := Zsb (C.ok j e he).edges d hd hb
     rw [List.length_take] at this
     exact ih d.on (by omega) (by omega)⟩
    rw [hr] at hm
    cases hm
 intro fuel
 induction fuel with
 | zero =>
  intro listed a w ι hs hc _ I
  have hall := Zw8 es.length (by omega : cnt (fun j => listed.getD j false) es.length = 0)
  refine ⟨?_, fin listed a w ι hall I⟩
  cases hr : Region.ready .any ops listed with
  | nil => rfl
  | cons i l =>
   obtain ⟨o, ho, h1, _⟩ := (Zse hs).1 (show i ∈ Region.ready .any ops listed by rw [hr]; simp)
   have hi : i < es.length := by rw [C.len]; exact (Array.getElem?_eq_some_iff.1 ho).1
   have := hall i hi
   rw [h1] at this
   cases this
 | succ fuel ih =>
  intro listed a w ι hs hc hcl I
  refine ⟨fun hr => fin listed a w ι (none_ready listed hs hr) I, fun i hi => ?_⟩
  obtain ⟨o, ho, h1, h2⟩ := (Zse hs).1 hi
  have hin : i < es.length := by rw [C.len]; exact (Array.getElem?_eq_some_iff.1 ho).1
  obtain ⟨e, he⟩ := C.get hin
  have heo : e.o = o := by have := C.op i e he; rw [ho] at this; exact (Option.some.inj this).symm
  subst heo
  have R : ZsI es (fun j => listed.getD j false) i e := ⟨he, hcl, h1, h2⟩
  obtain ⟨rk, rn0, rn1, _, rsh⟩ := C.rok i e he
  have hK : ∀ k o', Kof e k = some o' → HL es (fun j => listed.getD j false) (σ 0) k = some o' := fun k o' hk => by
   unfold Kof at hk
   split at hk
   ·rename_i hsm
    rw [Zn3] at hk
    split at hk
    ·rename_i hm
     rw [C.agreeH R k (fun _ => hm) (fun e => by rw [hsm] at e; cases e)]
     rw [← rsh]; exact hk
    ·cases hk
   ·rename_i hsm
    rw [rsh] at hk
    rw [C.agreeH R k (fun e => absurd e hsm) (fun _ => C.live i (by omega) k (by rw [hk]; rfl))]
    exact hk
  have hfr : Fresh ι (σ i).n (σ (i + 1)).n := ⟨Nat.le_trans (C.mono (i := i + 1) (j := es.length) (by omega) (Nat.le_refl _)) hf.1, fun k k1 k2 => by
   cases hk : ι k with
   | none => rfl
   | some c =>
    exfalso
    have m1 := C.mono (i := 0) (j := i) (by omega) (by omega)
    have m2 := C.mono (i := i + 1) (j := es.length) (by omega) (Nat.le_refl _)
    rcases I.dom k (by rw [hk]; simp) with h | h | ⟨j, hj, hjn, q1, q2⟩
    ·exact h (hf.2 k (by omega) (by omega))
    ·have := hf.1; omega
    ·by_cases hji : j = i
     ·subst hji
      have hj' : listed.getD j false = true := hj
      rw [h1] at hj'; cases hj'
     ·rcases Nat.lt_or_ge j i with h | h
      ·have := C.mono (i := j + 1) (j := i) (by omega) (by omega); omega
      ·have := C.mono (i := i + 1) (j := j) (by omega) (by omega); omega⟩
  have hil : i < listed.size := by rw [hs, ← C.len]; exact hin
  have hL' : (fun j => (listed.setIfInBounds i true).getD j false) = ZeJ (fun j => listed.getD j false) i := funext fun j => by
   unfold ZeJ
   by_cases hj : j = i
   ·subst hj; simp [Array.getD, hil]
   ·rw [if_neg hj]
    simp [Array.getD_eq_getD_getElem?, Array.getElem?_setIfInBounds_ne (fun e => hj e.symm)]
  refine C.sem i e he ι w a _ Q (fun t ht => ?_) (I.step.emb.sub hK) hfr fun v' w' ι' st dm hv => ?_
  ·rw [← C.agreeT R t ht]
   exact I.temps t
  ·-- the others stay
   have hX1 : join (Kof e) (fun k => if (Kof e k).isSome then none else HL es (fun j => listed.getD j false) (σ 0) k) = HL es (fun j => listed.getD j false) (σ 0) := funext fun k => by
    cases hk : Kof e k with
    | some o' => rw [ZfC (by rw [hk]; rfl), hk, hK k o' hk]
    | none => rw [Zd9 hk, hk]; rfl
   have hX2 : join (Zw4 e) (fun k => if (Kof e k).isSome then none else HL es (fun j => listed.getD j false) (σ 0) k) = HL es (ZeJ (fun j => listed.getD j false) i) (σ 0) := funext fun k => by
    rw [C.addH R k]
    unfold join Zw4
    cases hd : Dk e.r k with
    | false =>
     simp only [Bool.false_eq_true, if_false]
     cases hk : Kof e k with
     | some o' => exact (hK k o' hk).symm
     | none => rfl
    | true =>
     simp only [if_true]
     cases hs' : e.s'.h.get k with
     | some o' => rfl
     | none =>
      simp only
      split
      ·rfl
      ·rename_i hn
       have hkn : Kof e k = none := by
        cases hk : Kof e k with
        | none => rfl
        | some o' => rw [hk] at hn; exact absurd rfl hn
       rcases ZhI.1 hd with ⟨q1, q2⟩ | ⟨q1, q2⟩
       ·have hlt := rk.lt k q2
        rw [C.agreeH R k (fun _ => List.mem_append_left _ q2) (fun _ => by omega)]
        unfold Kof at hkn
        split at hkn
        ·rw [Zn3, if_pos (List.mem_append_left _ q2), rsh] at hkn; exact hkn
        ·rw [rsh] at hkn; exact hkn
       ·cases hx : HL es (fun j => listed.getD j false) (σ 0) k with
        | none => rfl
        | some o' =>
         obtain ⟨b, hb⟩ := I.step.emb.live (k := k) (by rw [hx]; rfl)
         have := hfr.2 k (by omega) (by omega)
         rw [this] at hb
         cases hb
   have fr := Step.framed st (x := fun k => if (Kof e k).isSome then none else HL es (fun j => listed.getD j false) (σ 0) k) (by rw [hX1]; exact I.step.emb) (fun k hk => by
    cases hkk : Kof e k with
    | none => rfl
    | some o' => simp only [hkk] at hk; simp at hk)
   rw [hX1, hX2] at fr
   have hdst := (C.ok i e he).dst
   refine ih (listed.setIfInBounds i true) _ w' ι' (by simpa using hs) ?_ ?_ ?_
   ·rw [hL']
    have := (Zx8 (L := fun j => listed.getD j false) (i := i) h1 es.length).2 hin
    omega
   ·rw [hL']
    intro j d hd hj x hx hb
    unfold ZeJ at hj ⊢
    split
    ·rfl
    ·by_cases hji : j = i
     ·subst hji
      rw [he] at hd; injection hd with hd; subst hd
      exact h2 x hx hb
     ·rw [if_neg hji] at hj
      exact hcl j d hd hj x hx hb
   ·rw [hL']
    refine ⟨I.step.trans fr, fun k hk => ?_, ?_, ?_, fun t => ?_⟩
    ·rcases dm k hk with h | ⟨q1, q2⟩ | h
     ·rcases I.dom k h with h | h | ⟨j, hj, hjn, q1, q2⟩
      ·exact .inl h
      ·exact .inr (.inl h)
      ·exact .inr (.inr ⟨j, by unfold ZeJ; split <;> first | rfl | exact hj, hjn, q1, q2⟩)
     ·exact .inr (.inr ⟨i, by simp [ZeJ], hin, q1, q2⟩)
     ·exact .inr (.inl h)
    ·have := I.size
     cases e.o.dst <;> simp [Act.put, this]
    ·have := I.defers
     cases e.o.dst <;> simp [Act.put, this]
    ·rw [C.addT R t, ZtK I.size hdst]
     by_cases hdt : e.o.dst = some t
     ·rw [if_pos hdt, if_pos hdt]; exact hv
     ·rw [if_neg hdt, if_neg hdt]; exact (I.temps t).ext fr.ext
end
end Ev
end Go.Proofs.YtgpekgedjmhmeaaGreat
/- A region that draws its order: from the run in the text's order to any order. -/
namespace Go.Proofs.YtgpekgedjmhmeaaGreat
open Go.RowKit
namespace Ev
section
variable {P : Program} {ext : FuncId → Option Ext}

noncomputable def SOp (P : Program) (ext : FuncId → Option Ext) (fu : Nat) : Prop :=
  ∀ (ρ ρ' : Operand → Value) (o : Oper) (s : St) (v : Value) (s' : St), ZhT P ext fu ρ o s = some (v, s') → (∀ p ∈ s'.ob, p.1 = p.2) → ∀ (ι : Ren) (w : World), (∀ x, VR ι (ρ x) (ρ' x)) → Emb P ι s.h.get w → Fresh ι s.n s'.n →
    ∀ (a : Act) (K : Act → World → Prop) (Q : Exit → Act → World → Prop), execOp a.eval o = execOp ρ' o → (∀ v' w' ι', Step P ι s.h.get w ι' s'.h.get w' → Dom ι ι' s.n s'.n → VR ι' v v' → K (a.put o.dst v') w') → o.wp P a w K Q
noncomputable def K0 (r : Rec) (s : St) : AH := if r.small then (Znz s.h (r.t ++ r.q)).get else s.h.get
theorem Zl7 {n k : Nat} : ∀ {l : List Nat}, k ∈ ZlT n l ↔ k ∈ l ∧ k < n
  | [] => by simp [ZlT]
  | x :: l => by
    simp only [ZlT]
    cases hx : Nat.blt x n with
    | true =>
      have : x < n := Nat.le_of_ble_eq_true hx
      simp only [cond_true, List.mem_cons, Zl7 (l := l)]
      constructor
      · rintro (rfl | ⟨h1, h2⟩)
        · exact ⟨.inl rfl, this⟩
        · exact ⟨.inr h1, h2⟩
      · rintro ⟨rfl | h1, h2⟩
        · exact .inl rfl
        · exact .inr ⟨h1, h2⟩
    | false =>
      have : ¬ x < n := fun e => by rw [show Nat.blt x n = true from Nat.ble_eq_true_of_le e] at hx; cases hx
      simp only [cond_false, List.mem_cons, Zl7 (l := l)]
      constructor
      · rintro ⟨h1, h2⟩; exact ⟨.inr h1, h2⟩
      · rintro ⟨rfl | h1, h2⟩
        · exact absurd h2 this
        · exact ⟨h1, h2⟩
theorem ZvH (F : Fit P ext) {fu : Nat} {ρ : Operand → Value} {o : Oper} {s s' : St} {v : Value} {r : Rec} (h : Zl4 P ext (fu + 1) ρ o s = some (v, s', r)) :
    ZuU r ∧ r.n0 = s.n ∧ r.n1 = s'.n ∧ (∀ k, Dk r k = false → s'.h.get k = s.h.get k) ∧
    ∃ (s0 s1 : St), ZhT P ext fu ρ o s0 = some (v, s1) ∧ s0.n = s.n ∧ s1.n = s'.n ∧ s1.ob = s'.ob ∧ s0.h.get = K0 r s ∧ s1.h.get = fun k => if Dk r k then s'.h.get k else K0 r s k := by
  have ndk : ∀ {k : Nat}, Dk r k = false → ¬ ((r.w = true ∧ k ∈ r.t) ∨ (r.n0 ≤ k ∧ k < r.n1)) := fun {k} hd hn => by rw [ZhI.2 hn] at hd; cases hd
  simp only [Zl4] at h
  split at h
  · split at h
    · rename_i v1 s1 h1
      obtain ⟨hall, h⟩ := Zo h
      injection h with h
      simp only [Prod.mk.injEq] at h
      obtain ⟨rfl, rfl, rfl⟩ := h
      have u := (ZeN (P := P) (ext := ext) (fun f g hg => (F.hp f g hg).up) fu).2.2.1 _ _ _ _ _ h1
      obtain ⟨l, e1, e2⟩ := u.log
      simp only [List.append_nil] at e1
      subst e1
      have same : ∀ k, Dk ⟨false, true, ZlT s.n s1.wr, s.n, s1.n, []⟩ k = false → s1.h.get k = s.h.get k := fun k hd => by
        have hn := ndk hd
        refine e2 k (fun hk => hn ?_) (fun hk => hn (.inr hk))
        have hk1 : k < s1.n := Nat.le_of_ble_eq_true (Za8 hall k hk)
        by_cases hks : k < s.n
        · exact .inl ⟨rfl, Zl7.2 ⟨hk, hks⟩⟩
        · exact .inr ⟨Nat.not_lt.1 hks, hk1⟩
      refine ⟨⟨fun k hk => (Zl7.1 hk).2, (fun k hk => by cases hk), u.n, fun _ => rfl⟩, rfl, rfl, same, _, s1, h1, rfl, rfl, rfl, rfl, funext fun k => ?_⟩
      split
      · rfl
      · rename_i hd
        exact same k (by simpa using hd)
    · cases h
  · generalize hw : (Ziy s ρ o).1 = w at h
    generalize ht : (Ziy s ρ o).2 = t at h
    generalize hq : Zpx ρ o = q at h
    obtain ⟨hltq, h⟩ := Zo h
    obtain ⟨hlt, hlq⟩ := (Bool.and_eq_true _ _).mp hltq
    split at h
    · rename_i v1 s1 h1
      obtain ⟨hall, h⟩ := Zo h
      simp only [Bool.and_eq_true] at hall
      injection h with h
      simp only [Prod.mk.injEq] at h
      obtain ⟨rfl, rfl, rfl⟩ := h
      have u := (ZeN (P := P) (ext := ext) (fun f g hg => (F.hp f g hg).up) fu).2.2.1 _ _ _ _ _ h1
      obtain ⟨l, e1, e2⟩ := u.log
      simp only [List.append_nil] at e1
      subst e1
      have hle : s1.n ≤ s.n + 1 := Nat.le_of_ble_eq_true hall.2
      have hge : s.n ≤ s1.n := u.n
      have htl : ∀ k ∈ t, k < s.n := fun k hk => Nat.le_of_ble_eq_true (Za8 hlt k hk)
      have hwr : ∀ k ∈ s1.wr, w = true ∧ k ∈ t := fun k hk => by
        have := Za8 hall.1 k hk
        simp only [Bool.and_eq_true, ZjI] at this
        exact this
      have gets : ∀ k, ((bif w then ZsF s1.h t s.h else s.h).set s.n (bif Nat.beq s1.n s.n then s.h.get s.n else s1.h.get s.n)).get k =
          if k = s.n then (bif Nat.beq s1.n s.n then s.h.get s.n else s1.h.get s.n) else if w = true ∧ k ∈ t then s1.h.get k else s.h.get k := fun k => by
        rw [Tr.get_set]
        unfold upd
        split
        · rfl
        · cases w with
          | false => simp
          | true =>
            simp only [cond_true, true_and]
            rw [ZrX]
      refine ⟨⟨htl, fun k hk => Nat.le_of_ble_eq_true (Za8 hlq k hk), hge, fun e => by cases e⟩, rfl, rfl, fun k hd => ?_, _, s1, h1, rfl, rfl, rfl, rfl, funext fun k => ?_⟩
      · have hn := ndk hd
        rw [gets]
        split
        · rename_i hk
          subst hk
          have : s1.n = s.n := by
            rcases Nat.lt_or_ge s.n s1.n with h | h
            · exact absurd (.inr ⟨Nat.le_refl _, h⟩) hn
            · omega
          rw [ZkY this]; rfl
        · split
          · rename_i hk; exact absurd (.inl hk) hn
          · rfl
      · split
        · rename_i hd
          rw [gets]
          rcases ZhI.1 hd with ⟨q1, q2⟩ | ⟨q1, q2⟩
          · have := htl k q2
            rw [if_neg (by omega), if_pos ⟨q1, q2⟩]
          · simp only at q1 q2
            have hk : k = s.n := by omega
            subst hk
            rw [if_pos rfl, ZjF (by omega)]; rfl
        · rename_i hd
          have hn := ndk (by simpa using hd)
          show _ = (Znz s.h (t ++ q)).get k
          exact e2 k (fun hk => hn (.inl (hwr k hk))) (fun hk => hn (.inr hk))
    · cases h
theorem Zqg {t : Tmp} : ∀ {l : List Operand}, t ∈ Zi8 l ↔ .tmp t ∈ l
  | [] => by simp [Zi8]
  | x :: l => by cases x <;> simp [Zi8, Zqg (l := l)]
theorem ZvI {T : Tr Value} (t : Nat) : ∀ (l : List Tmp), (ZsG T l).get t = if t ∈ l then T.get t else none
  | [] => by simp [ZsG, Tr.get_nil]
  | j :: l => by
    rw [ZsG, Tr.get_set]
    by_cases hk : t = j
    · subst hk; rw [Zy]; simp
    · rw [Zn hk, ZvI t l]
      simp [hk]
theorem Zqh {fu : Nat} {ρ : Operand → Value} {o : Oper} {s s' : St} {v : Value} (h : ZhT P ext fu ρ o s = some (v, s')) : ∀ cs b, o.op ≠ .select cs b := fun cs b hsel => by
  cases fu with
  | zero => simp [ZhT] at h
  | succ fu =>
    have h1 : ev1 P ρ o s = none := by unfold ev1; rw [hsel]
    simp only [ZhT, ZrO, hsel, h1] at h
    cases h
theorem Zw9 (F : Fit P ext) {nt fu : Nat} {D : List Deferred} {ops : Array Oper} {es : List Ent} {T T' : Tr Value} {s s' : St} (hS : ∀ fu', fu' < fu → SOp P ext fu') (h : ZfB P ext nt fu ops [] ops.toList T s = some (es, T', s')) (ho : ∀ p ∈ s'.ob, p.1 = p.2)
    {ι : Ren} {a : Act} {w : World} {Q : Exit → Act → World → Prop} (hT : TR ι nt D T a) (he : Emb P ι s.h.get w) (hf : Fresh ι s.n s'.n)
    (hQ : ∀ ι' a' w', Step P ι s.h.get w ι' s'.h.get w' → Dom ι ι' s.n s'.n → TR ι' nt D T' a' → Q .normal a' w') : wpAny P .any ops Q ops.size (Array.replicate ops.size false) a { w with drawn := w.drawn + 1 } := by
  obtain ⟨es2, σ, τ, h1, h2, h3, h4, h5, h6, h7⟩ := ZuV nt ops fu _ _ _ _ _ _ _ h
  simp only [List.nil_append] at h1 h7
  subst h1
  have hlen : es.length = ops.size := by rw [← List.length_map (f := (·.o)), h2]; simp
  have hN : ops.toList.length = es.length := by rw [hlen]; simp
  rw [hN] at h5 h6
  have hop : ∀ (i : Nat) (e : Ent), es[i]? = some e → ops[i]? = some e.o := fun i e hi => by
    have : (es.map (·.o))[i]? = some e.o := by simp [hi]
    rw [h2] at this
    simpa using this
  have hup : ∀ (i : Nat) (e : Ent), es[i]? = some e → Up (σ i) e.s ∧ Up e.s e.s' := fun i e hi => by
    obtain ⟨b, q1, q2, q3⟩ := (h7 i e hi).run
    refine ⟨Zd8 q1, ?_⟩
    cases b with
    | true =>
      obtain ⟨fu', _, hv⟩ := q2 rfl
      exact (ZeN (P := P) (ext := ext) (fun f g hg => (F.hp f g hg).up) fu').2.2.2.2.2 _ _ _ _ _ _ hv
    | false => obtain ⟨_, e1, _⟩ := q3 rfl; rw [e1]; exact Up.refl _
  have upn : ∀ m i, i + m = es.length → Up (σ i) (σ es.length) := by
    intro m
    induction m with
    | zero => intro i hi; obtain rfl : i = es.length := by omega
              exact Up.refl _
    | succ m ih =>
      intro i hi
      have hlt : i < es.length := by omega
      obtain ⟨u1, u2⟩ := hup i es[i] (List.getElem?_eq_getElem hlt)
      have := ih (i + 1) (by omega)
      rw [(h7 i es[i] (List.getElem?_eq_getElem hlt)).es'] at this
      exact (u1.trans u2).trans this
  have hob : ∀ (i : Nat) (e : Ent), es[i]? = some e → ∀ p ∈ e.s'.ob, p.1 = p.2 := fun i e hi => by
    have hlt : i < es.length := (List.getElem?_eq_some_iff.1 hi).1
    have u := upn (es.length - (i + 1)) (i + 1) (by omega)
    rw [(h7 i e hi).es', h5] at u
    exact ZaY u.ob ho
  -- a test answered so is so
  have hst : ∀ (i : Nat) (e : Ent), es[i]? = some e → e.s.h = (σ i).h ∧ e.s.n = (σ i).n := fun i e hi => by
    obtain ⟨b, q1, _, _⟩ := (h7 i e hi).run
    unfold ZgD at q1
    split at q1
    · injection q1 with q1; injection q1 with g1 g2; rw [← g2]; exact ⟨rfl, rfl⟩
    · split at q1
      · split at q1
        · injection q1 with q1; injection q1 with g1 g2; rw [← g2]; exact ⟨rfl, rfl⟩
        · injection q1 with q1; injection q1 with g1 g2; rw [← g2]; exact ⟨rfl, rfl⟩
        · cases q1
      · cases q1
  have hrec : ∀ (i : Nat) (e : Ent), es[i]? = some e → ZuU e.r ∧ e.r.n0 = (σ i).n ∧ e.r.n1 = (σ (i + 1)).n ∧ (∀ k, Dk e.r k = false → (σ (i + 1)).h.get k = (σ i).h.get k) ∧ e.s.h = (σ i).h := fun i e hi => by
    obtain ⟨g1, g2⟩ := hst i e hi
    obtain ⟨b, q1, q2, q3⟩ := (h7 i e hi).run
    rw [(h7 i e hi).es']
    cases b with
    | true =>
      obtain ⟨fu', _, hv⟩ := q2 rfl
      cases fu' with
      | zero => simp [Zl4] at hv
      | succ fu' =>
        obtain ⟨r1, r2, r3, r4, _⟩ := ZvH F hv
        exact ⟨r1, by rw [r2, g2], r3, fun k hk => by rw [r4 k hk, g1], g1⟩
    | false =>
      obtain ⟨_, e1, e2⟩ := q3 rfl
      rw [e1, e2]
      exact ⟨⟨fun k hk => by simp [ZlU] at hk, fun k hk => by simp [ZlU] at hk, Nat.le_refl _, fun e => by simp [ZlU] at e⟩, g2, rfl, fun k _ => by rw [g1], g1⟩
  have C : Ctx P ext nt fu ops es σ τ := by
    refine ⟨hlen, hop, h7, hrec, fun k hk => ?_, fun i e hi ι1 w1 a1 K Q1 ht1 he1 hf1 hK => ?_⟩
    · rw [h3] at hk ⊢
      rw [h5]
      rintro ⟨k1, k2⟩
      obtain ⟨b, hb⟩ := he.live hk
      rw [hf.2 k k1 k2] at hb
      cases hb
    · obtain ⟨g1, g2⟩ := hst i e hi
      obtain ⟨b, q1, q2, q3⟩ := (h7 i e hi).run
      have hes' := (h7 i e hi).es'
      have hlt : i < es.length := (List.getElem?_eq_some_iff.1 hi).1
      obtain ⟨hwant, _, _⟩ := ZfX ht1 q1
      unfold wpOp
      rw [hop i e hi]
      simp only
      cases b with
      | true =>
        rw [if_pos hwant]
        obtain ⟨fu', hfu, hv⟩ := q2 rfl
        cases fu' with
        | zero => simp [Zl4] at hv
        | succ fu' =>
          obtain ⟨r1, r2, r3, r4, s0, s1, hv1, n0, n1, ob1, hh0, hh1⟩ := ZvH F hv
          refine .inl (hS fu' (by omega) _ (fun x => match x with | .tmp t => if t ∈ Zi8 e.o.op.operands.toList then a1.tmps.getD t undef else undef | x => ZcY a1 x) e.o s0 e.v s1 hv1 (by rw [ob1]; exact hob i e hi) ι1 w1 (fun x => ?_) ?_ ?_ a1 K Q1 ?_ fun v' w' ι' k1 k2 k3 => ?_)
          · cases x with
            | tmp t =>
              simp only [opnd]
              rw [ZvI]
              by_cases htm : t ∈ Zi8 e.o.op.operands.toList
              · rw [if_pos htm, if_pos htm]
                refine ht1 t ?_
                unfold Oper.looksAt
                refine List.mem_append_left _ (List.mem_filterMap.2 ⟨.tmp t, Zqg.1 htm, rfl⟩)
              · rw [if_neg htm, if_neg htm]; exact VR.undef'
            | const v =>
              simp only [opnd, ZcY]
              cases hfv : ZeP v
              · exact VR.undef'
              · exact VR.of_free hfv
            | global g => exact .glob rfl
            | func f => exact .atom rfl
          · rw [hh0]; exact he1
          · rw [n0, n1, g2, ← hes']; exact hf1
          · refine execOp_congr e.o (fun cs b hsel => ?_) fun x hx => ?_
            · exact Zqh hv1 cs b hsel
            · have hg := Za8 (h7 i e hi).good x (by simpa using hx)
              cases x with
              | tmp t => simp only; rw [if_pos (Zqg.2 (by simpa using hx))]; rfl
              | const v => simp only [ZhF] at hg; simp [ZcY, hg, Act.eval]
              | global g => rfl
              | func f => rfl
          · rw [hh0, hh1] at k1
            rw [n0, n1, g2, ← hes'] at k2
            exact hK v' w' ι' k1 k2 k3
      | false =>
        obtain ⟨e0, e1, e2⟩ := q3 rfl
        rw [if_neg (by rw [hwant]; simp)]
        refine hK undef w1 ι1 ?_ Dom.refl (by rw [e0]; exact VR.undef')
        have : Zw4 e = Kof e := funext fun k => by
          unfold Zw4
          rw [e2]
          have : Dk (ZlU e.s) k = false := by
            cases hd : Dk (ZlU e.s) k with
            | false => rfl
            | true =>
              rcases ZhI.1 hd with ⟨q, _⟩ | ⟨q1, q2⟩
              · simp [ZlU] at q
              · simp only [ZlU] at q1 q2; omega
          rw [this]; rfl
        rw [this]
        exact Step.refl he1
  have none0 : ∀ {β : Type} (D : Nat → Bool) (V : Nat → β) (x0 : β) (L : Nat → Bool), (∀ j, L j = false) → ∀ n, ovf L D V x0 n = x0 := fun D V x0 L hL n => by
    induction n with
    | zero => rfl
    | succ n ih => rw [ovf, hL n, ih]; simp
  have hL0 : ∀ j, (Array.replicate ops.size false).getD j false = false := fun j => by
    simp only [Array.getD_eq_getD_getElem?, Array.getElem?_replicate]
    split <;> rfl
  have hH0 : HL es (fun j => (Array.replicate ops.size false).getD j false) (σ 0) = (σ 0).h.get := funext fun k => none0 _ _ _ _ hL0 _
  have hT0 : ∀ t, TL es (fun j => (Array.replicate ops.size false).getD j false) (τ 0) t = (τ 0).get t := fun t => none0 _ _ _ _ hL0 _
  have hs0 : Step P ι (σ 0).h.get w ι (σ 0).h.get { w with drawn := w.drawn + 1 } := Step.still (by rw [h3]; exact he) rfl rfl rfl rfl
  refine C.order (ι0 := ι) (w0 := w) (by rw [h3, h5]; exact hf) (Q := Q) (fun ι' a' w' k1 k2 k3 => ?_) ops.size _ a _ ι (by simp) ?_ ?_ ⟨by rw [hH0]; exact hs0, fun k hk => .inl hk, hT.1, hT.2.1, fun t => by rw [hT0, h4]; exact hT.2.2 t⟩
  · rw [h3, h5] at k1 k2
    rw [h6] at k3
    exact hQ ι' a' w' k1 k2 k3
  · rw [← hlen]
    have : ∀ n, cnt (fun j => (Array.replicate es.length false).getD j false) n ≤ n := fun n => by
      induction n with
      | zero => exact Nat.le_refl _
      | succ n ih => rw [cnt]; split <;> omega
    exact this _
  · intro i e _ hi
    exact absurd ((hL0 i).symm.trans hi) (by decide)
theorem Zyf (F : Fit P ext) {nt fu : Nat} {D : List Deferred} {ops : Array Oper} {es : List Ent} {T T' : Tr Value} {s s' : St} (hS : ∀ fu', fu' < fu → SOp P ext fu') (h : ZfB P ext nt fu ops [] ops.toList T s = some (es, T', s')) (ho : ∀ p ∈ s'.ob, p.1 = p.2)
    {ι : Ren} {a : Act} {w : World} {Q : Exit → Act → World → Prop} {id : Nat} (hT : TR ι nt D T a) (he : Emb P ι s.h.get w) (hf : Fresh ι s.n s'.n)
    (hQ : ∀ ι' a' w', Step P ι s.h.get w ι' s'.h.get w' → Dom ι ι' s.n s'.n → TR ι' nt D T' a' → Q .normal a' w') : (Code.region id ops true).wp P Q a w :=
  wp_region_any F.mixed (Zw9 F hS h ho hT he hf hQ)
end
end Ev
end Go.Proofs.YtgpekgedjmhmeaaGreat
/- The runner against the model: what it says holds in every world. -/
namespace Go.Proofs.YtgpekgedjmhmeaaGreat
open Go.RowKit
namespace Ev
section
variable {P : Program} {ext : FuncId → Option Ext}

def Zgw (P : Program) (ι : Ren) (s : St) (w : World) (nt : Nat) (D : List Deferred) (e : Ex) (T' : Tr Value) (s' : St) (ex : Exit) (a' : Act) (w' : World) : Prop :=
 ex = e.out ∧ ∃ ι', Step P ι s.h.get w ι' s'.h.get w' ∧ Dom ι ι' s.n s'.n ∧ TR ι' nt D T' a'
theorem Step.two {ι ι1 ι2 : Ren} {s s1 s2 : St} {w w1 w2 : World} (a : Step P ι s.h.get w ι1 s1.h.get w1 ∧ Dom ι ι1 s.n s1.n) (b : Step P ι1 s1.h.get w1 ι2 s2.h.get w2 ∧ Dom ι1 ι2 s1.n s2.n) (h1 : s.n ≤ s1.n) (h2 : s1.n ≤ s2.n) :
  Step P ι s.h.get w ι2 s2.h.get w2 ∧ Dom ι ι2 s.n s2.n := ⟨a.1.trans b.1, a.2.trans b.2 h1 h2⟩
theorem Zxv {o : Oper} {c : Call} (h : ZrO o = some c) : o.op = .call c ∧ True := by
 unfold ZrO at h
 split at h
 ·rename_i c' ho
  split at h
  ·rename_i f hf
   injection h with h; subst h
   exact ⟨ho, trivial⟩
  ·injection h with h; subst h
   exact ⟨ho, trivial⟩
  ·cases h
 ·cases h
theorem Zgx {ι : Ren} {a a' b b' : Array Value} (h : VRs ι a a') (k : VRs ι b b') : VRs ι (a ++ b) (a' ++ b') := by
 refine ⟨by simp [h.1, k.1], fun i x y hx hy => ?_⟩
 by_cases hi : i < a.size
 ·rw [Array.getElem?_append_left hi] at hx
  rw [Array.getElem?_append_left (by rw [← h.1]; exact hi)] at hy
  exact h.2 i x y hx hy
 ·rw [Array.getElem?_append_right (by omega)] at hx
  rw [Array.getElem?_append_right (by rw [← h.1]; omega), ← h.1] at hy
  exact k.2 _ x y hx hy
theorem ZwA {ι : Ren} {ρ ρ' : Operand → Value} {o : Oper} {c : Call} {f : FuncId} {args : Array Value} (hρ : ∀ x, VR ι (ρ x) (ρ' x)) (ho : o.op = .call c) (h : callee ρ c = some (f, args)) (w : World) :
  ∃ args', (execOp ρ' o).run P w = (callFunc f args').run P w ∧ VRs ι args args' := by
 unfold callee at h
 split at h
 ·rename_i x hx
  split at h
  ·rename_i g a b hg
   injection h with h; injection h with h1 h2; subst h1 h2
   have hv := hg ▸ hρ x
   have : ∃ a' b', ρ' x = .func (.func g) a' b' ∧ VRs ι a a' ∧ VRs ι b b' := by
    generalize ρ' x = x' at hv
    cases hv with
    | atom h =>
     simp [Ev.atom] at h
     obtain ⟨rfl, rfl⟩ := h
     exact ⟨_, _, rfl, ⟨rfl, fun i x y hx => by simp at hx⟩, ⟨rfl, fun i x y hx => by simp at hx⟩⟩
    | func hs ht h1 h2 => exact ⟨_, _, rfl, ⟨hs, h1⟩, ⟨ht, h2⟩⟩
   obtain ⟨a', b', hx', ha, hb⟩ := this
   refine ⟨a' ++ c.args.map ρ' ++ b', ?_, Zgx (Zgx ha (ZlD hρ c.args)) hb⟩
   simp [execOp, ho, resolve, hx, hx', Deferred.ofValue, invoke, Result.andThen, Sem.run]
  ·cases h
 ·cases h
theorem ZvV {ι : Ren} {ρ ρ' : Operand → Value} {o : Oper} {c : Call} {f : FuncId} {args : Array Value} (hρ : ∀ x, VR ι (ρ x) (ρ' x)) (ho : o.op = .call c) (h : Zvh P ρ c = some (f, args)) (w : World) :
  ∃ args', (execOp ρ' o).run P w = (callFunc f args').run P w ∧ VRs ι args args' := by
 unfold Zvh at h
 split at h
 ·rename_i r name hc
  split at h
  ·rename_i t v hv
   obtain ⟨_, h⟩ := Zo h
   split at h
   ·rename_i g x hm
    obtain ⟨hx, h⟩ := Zo h
    injection h with h
    injection h with h1 h2
    subst h1 h2
    have hr : ρ' r = .iface t v := by
     have hv' := hv ▸ hρ r
     generalize ρ' r = x' at hv'
     cases hv' with
     | atom h => rfl
    refine ⟨#[x] ++ c.args.map ρ', ?_, Zgx ⟨rfl, fun i y z hy hz => by
     rw [hy] at hz
     injection hz with hz
     subst hz
     rcases i with _ | i
     ·simp at hy; subst hy; exact VR.of_free1 hx
     ·simp at hy⟩ (ZlD hρ c.args)⟩
    have hm' := Zqa w hm
    have e0 : (#[Value.iface t v] ++ Array.map ρ' c.args)[0]? = some (Value.iface t v) := by
     rw [Array.getElem?_append_left (by simp)]; rfl
    have e2 : (#[Value.iface t v] ++ Array.map ρ' c.args).extract 1 (#[Value.iface t v] ++ Array.map ρ' c.args).size = Array.map ρ' c.args := by
     apply Array.ext'
     simp [Array.toList_extract]
     rw [List.take_of_length_le (by simp)]
    simp only [execOp, ho, resolve, hc, hr, Sem.run_bind, Sem.run_pure, Result.andThen_ok, invoke, e0, callMethod, program, Sem.run, hm', e2]
   ·cases h
  ·cases h
 ·exact ZwA hρ ho h w
theorem Zn5 {ι : Ren} {s s' : St} {w : World} {v : Value} {o : Oper} {a : Act} {K : Act → World → Prop} {Q : Exit → Act → World → Prop} (h : Res P ((execOp a.eval o).run P w) s ι w v s')
  (hK : ∀ v' w' ι', Step P ι s.h.get w ι' s'.h.get w' → Dom ι ι' s.n s'.n → VR ι' v v' → K (a.put o.dst v') w') : o.wp P a w K Q := by
 obtain ⟨nx, w', ι', v', hr, hv, h1, h2, h3⟩ := h
 unfold Oper.wp
 rw [hr]
 rcases hv with rfl | ⟨rfl, rfl⟩
 ·exact hK v' w' ι' h1 h2 h3
 ·exact hK undef w' ι' h1 h2 h3
theorem ZlE {ι : Ren} {nt : Nat} {args args' : Array Value} (h : VRs ι args args') (hs : args.size ≤ nt) : TR ι nt [] (Zhp 0 args.toList .nil) { tmps := args' ++ Array.replicate (nt - args'.size) undef, defers := [] } := by
 have key : ∀ (l : List Value) (i : Nat) (T : Tr Value) (t : Nat), (Zhp i l T).get t = if i ≤ t ∧ t < i + l.length then l[t - i]? else T.get t := by
  intro l
  induction l with
  | nil => intro i T t; simp only [Zhp]; rw [if_neg (by rintro ⟨h1, h2⟩; simp only [List.length_nil] at h2; omega)]
  | cons v l ih =>
   intro i T t
   simp only [Zhp]
   rw [ih, Tr.get_set]
   by_cases h1 : t = i
   ·subst h1
    rw [if_neg (by omega), Zy, if_pos (by simp)]
    simp
   ·rw [Zn h1]
    by_cases h2 : i + 1 ≤ t ∧ t < i + 1 + l.length
    ·rw [if_pos h2, if_pos (by simp; omega)]
     have : t - i = (t - (i + 1)) + 1 := by omega
     rw [this, List.getElem?_cons_succ]
    ·rw [if_neg h2, if_neg (by simp; omega)]
 refine ⟨by simp [← h.1, hs], rfl, fun t => ?_⟩
 rw [key]
 by_cases ht : t < args.size
 ·have ht' : t < args'.size := by rw [← h.1]; exact ht
  rw [if_pos (by simp [ht])]
  have e1 : args.toList[t - 0]? = some args[t] := by simp [ht]
  rw [e1, Array.getD_eq_getD_getElem?, Array.getElem?_append_left ht', Array.getElem?_eq_getElem ht']
  exact h.2 t _ _ (Array.getElem?_eq_getElem ht) (Array.getElem?_eq_getElem ht')
 ·rw [if_neg (by simp; omega)]
  have ht' : args'.size ≤ t := by rw [← h.1]; omega
  rw [Array.getD_eq_getD_getElem?, Array.getElem?_append_right ht']
  have : (Array.replicate (nt - args'.size) undef)[t - args'.size]?.getD undef = undef := by
   rw [Array.getElem?_replicate]
   split <;> rfl
  rw [this]
  exact VR.undef'

theorem ZtE {c : Code} {Q Q' : Exit → Act → World → Prop} (hq : ∀ e a w, Q e a w → Q' e a w) : ∀ (n : Nat) (a : Act) (w : World), Code.rounds P c Q n a w → Code.rounds P c Q' n a w
 | 0, _, _, h => h
 | n + 1, a, w, h => by
  rw [rounds_succ] at h ⊢
  refine wp_mono h ?_
  intro e a1 w1 h1
  cases e with
  | normal => exact ZtE hq n a1 w1 h1
  | _ => exact hq _ _ _ h1
theorem Step.below {ι : Ren} {h : AH} {w w' : World} (e : Emb P ι h w) (hb : Below w.heap.size w w') : Step P ι h w ι h w' :=
 ⟨fun _ _ h => h, ⟨fun k c t hk => by
   obtain ⟨b, C, q1, q2, q3⟩ := e.obj k c t hk
   exact ⟨b, C, q1, (hb.block b.1 (e.lt k b q1)).trans q2, q3⟩, fun k O hk => by
   obtain ⟨b, q1, q2⟩ := e.ro k O hk
   exact ⟨b, q1, q2.on (hb.block b.1 (e.lt k b q1))⟩, e.inj, fun k b hk => Nat.lt_of_lt_of_le (e.lt k b hk) hb.size⟩,
  hb.os, hb.tape, hb.output, hb.size, fun b hlt _ => hb.block b hlt, fun k b h1 h2 => (by rw [h1] at h2; cases h2), fun _ h1 _ => h1, fun _ h1 _ => h1⟩
theorem ZfD (F : Fit P ext) : ∀ fu : Nat,
  (∀ nt c T s e T' s', Zah P ext nt fu c T s = some (e, T', s') → (∀ p ∈ s'.ob, p.1 = p.2) → ∀ ι D a w, TR ι nt D T a → Emb P ι s.h.get w → Fresh ι s.n s'.n → c.wp P (Zgw P ι s w nt D e T' s') a w) ∧
  (∀ nt ops l T s T' s', Zi9 P ext nt fu ops l T s = some (T', s') → (∀ p ∈ s'.ob, p.1 = p.2) → ∀ ι D a w (Q : Exit → Act → World → Prop), TR ι nt D T a → Emb P ι s.h.get w → Fresh ι s.n s'.n →
   (∀ ι' a' w', Step P ι s.h.get w ι' s'.h.get w' → Dom ι ι' s.n s'.n → TR ι' nt D T' a' → Q .normal a' w') → wpList P ops Q l a w) ∧
  SOp P ext fu ∧
  (∀ f args s v s', Zeh P ext fu f args s = some (v, s') → (∀ p ∈ s'.ob, p.1 = p.2) → ∀ ι w args', VRs ι args args' → Emb P ι s.h.get w → Fresh ι s.n s'.n → Calls P f args' w (ZsH P ι s w v s')) ∧
  (∀ nt c T s e T' s', Zah P ext nt fu (.loop c) T s = some (e, T', s') → (∀ p ∈ s'.ob, p.1 = p.2) → ∀ ι D a w, TR ι nt D T a → Emb P ι s.h.get w → Fresh ι s.n s'.n → Code.rounds P c (Zgw P ι s w nt D e T' s') fu a w) := by
 intro fu
 induction fu using Nat.strongRecOn with
 | _ fu ihs =>
 cases fu with
 | zero => exact ⟨fun _ _ _ _ _ _ _ h => by simp [Zah] at h, fun _ _ _ _ _ _ _ h => by simp [Zi9, St.keep_eq] at h, fun _ _ _ _ _ _ h => by simp [ZhT] at h, fun _ _ _ _ _ h => by simp [Zeh] at h, fun _ _ _ _ _ _ _ h => by simp [Zah] at h⟩
 | succ fu =>
  obtain ⟨ihC, ihO, ihP, ihF, ihL⟩ := ihs fu (Nat.lt_succ_self _)
  obtain ⟨upC, upO, upP, upF, upD, upE⟩ := ZeN (P := P) (ext := ext) (fun f g hg => (F.hp f g hg).up) fu
  have loops : ∀ nt c T s e T' s', Zah P ext nt (fu + 1) (.loop c) T s = some (e, T', s') → (∀ p ∈ s'.ob, p.1 = p.2) → ∀ ι D a w, TR ι nt D T a → Emb P ι s.h.get w → Fresh ι s.n s'.n → Code.rounds P c (Zgw P ι s w nt D e T' s') (fu + 1) a w := by
   intro nt x T s e T' s' h ho ι D a w hT he hf
   simp only [Zah] at h
   rw [rounds_succ]
   split at h
   ·rename_i T1 s1 h1
    have u1 := upC _ _ _ _ _ _ _ h1
    have u2 := upC _ _ _ _ _ _ _ h
    refine wp_mono (ihC nt x T s .normal T1 s1 h1 (ZaY u2.ob ho) ι D a w hT he (hf.mono (Nat.le_refl _) u2.n)) ?_
    rintro ex a1 w1 ⟨rfl, ι1, g1, g2, g3⟩
    refine ZtE ?_ fu a1 w1 (ihL nt x T1 s1 e T' s' h ho ι1 D a1 w1 g3 g1.emb (hf.after g2 u1.n))
    rintro ex2 a2 w2 ⟨rfl, ι2, k1, k2, k3⟩
    exact ⟨rfl, ι2, g1.trans k1, g2.trans k2 u1.n u2.n, k3⟩
   ·rename_i i T1 s1 h1
    injection h with h; simp only [Prod.mk.injEq] at h; obtain ⟨rfl, rfl, rfl⟩ := h
    refine wp_mono (ihC nt x T s _ _ _ h1 ho ι D a w hT he hf) ?_
    rintro ex a1 w1 ⟨rfl, hq⟩
    exact ⟨rfl, hq⟩
   ·rename_i T1 s1 h1
    injection h with h; simp only [Prod.mk.injEq] at h; obtain ⟨rfl, rfl, rfl⟩ := h
    refine wp_mono (ihC nt x T s _ _ _ h1 ho ι D a w hT he hf) ?_
    rintro ex a1 w1 ⟨rfl, hq⟩
    exact ⟨rfl, hq⟩
   ·cases h
  refine ⟨fun nt c T s e T' s' h ho ι D a w hT he hf => ?_, fun nt ops l T s T' s' h ho ι D a w Q hT he hf hQ => ?_, fun ρ ρ' o s v s' h ho ι w hρ he hf a K Q hex hK => ?_, fun f args s v s' h ho ι w args' ha he hf => ?_, loops⟩
  ·have base : Zgw P ι s w nt D .normal T s .normal a w ∧ Zgw P ι s w nt D .ret T s .ret a w ∧ ∀ i, Zgw P ι s w nt D (.exit i) T s (.exit i) a w :=
    ⟨⟨rfl, ι, Step.refl he, Dom.refl, hT⟩, ⟨rfl, ι, Step.refl he, Dom.refl, hT⟩, fun i => ⟨rfl, ι, Step.refl he, Dom.refl, hT⟩⟩
   -- one part, then the other
   have chain : ∀ {s1 : St} {T1 : Tr Value} {c2 : Code} {a1 : Act} {w1 : World} {ι1 : Ren}, Up s s1 → Up s1 s' → Step P ι s.h.get w ι1 s1.h.get w1 → Dom ι ι1 s.n s1.n → TR ι1 nt D T1 a1 → Zah P ext nt fu c2 T1 s1 = some (e, T', s') →
     c2.wp P (Zgw P ι s w nt D e T' s') a1 w1 := fun {s1 T1 c2 a1 w1 ι1} u1 u2 h1 h2 h3 h4 => by
    refine wp_mono (ihC nt c2 T1 s1 e T' s' h4 ho ι1 D a1 w1 h3 h1.emb ((hf.mono (Nat.le_refl _) (Nat.le_refl _)).after h2 u1.n)) ?_
    rintro ex a2 w2 ⟨rfl, ι2, g1, g2, g3⟩
    exact ⟨rfl, ι2, (Step.two ⟨h1, h2⟩ ⟨g1, g2⟩ u1.n u2.n).1, (Step.two ⟨h1, h2⟩ ⟨g1, g2⟩ u1.n u2.n).2, g3⟩
   have h0 := h
   cases c <;> simp only [Zah] at h
   case skip => injection h with h; simp only [Prod.mk.injEq] at h; obtain ⟨rfl, rfl, rfl⟩ := h; exact wp_skip base.1
   case label l => injection h with h; simp only [Prod.mk.injEq] at h; obtain ⟨rfl, rfl, rfl⟩ := h; exact wp_label base.1
   case scope c =>
    refine wp_scope_straight (wp_mono (ihC nt c T s e T' s' h ho ι D a w hT he hf) ?_)
    rintro ex a1 w1 ⟨rfl, hq⟩
    cases e <;> exact ⟨rfl, hq⟩
   case ret => injection h with h; simp only [Prod.mk.injEq] at h; obtain ⟨rfl, rfl, rfl⟩ := h; exact wp_ret base.2.1
   case exit id => injection h with h; simp only [Prod.mk.injEq] at h; obtain ⟨rfl, rfl, rfl⟩ := h; exact wp_exit (base.2.2 id)
   case seq x y =>
    split at h
    ·rename_i T1 s1 h1
     have u1 := upC _ _ _ _ _ _ _ h1
     have u2 := upC _ _ _ _ _ _ _ h
     refine wp_seq (wp_mono (ihC nt x T s .normal T1 s1 h1 (ZaY u2.ob ho) ι D a w hT he (hf.mono (Nat.le_refl _) u2.n)) ?_)
     rintro ex a1 w1 ⟨rfl, ι1, g1, g2, g3⟩
     exact chain u1 u2 g1 g2 g3 h
    ·rename_i i T1 s1 h1
     injection h with h; simp only [Prod.mk.injEq] at h; obtain ⟨rfl, rfl, rfl⟩ := h
     refine wp_seq (wp_mono (ihC nt x T s _ _ _ h1 ho ι D a w hT he hf) ?_)
     rintro ex a1 w1 ⟨rfl, hq⟩
     exact ⟨rfl, hq⟩
    ·rename_i T1 s1 h1
     injection h with h; simp only [Prod.mk.injEq] at h; obtain ⟨rfl, rfl, rfl⟩ := h
     refine wp_seq (wp_mono (ihC nt x T s _ _ _ h1 ho ι D a w hT he hf) ?_)
     rintro ex a1 w1 ⟨rfl, hq⟩
     exact ⟨rfl, hq⟩
    ·cases h
   case cond x y z =>
    split at h
    ·rename_i t ht
     have hx : a.eval x = .bool t := Zhs ((ht ▸ hT.opnd x : VR ι (.bool t) (ZcY a x)).bool_inv)
     split at h
     ·exact wp_cond_true hx (ihC nt y T s e T' s' h ho ι D a w hT he hf)
     ·exact wp_cond_false hx (ihC nt z T s e T' s' h ho ι D a w hT he hf)
    ·cases h
   case block id x =>
    split at h
    ·rename_i i T1 s1 h1
     cases hb : Nat.beq i id with
     | true =>
      rw [hb] at h
      injection h with h; simp only [Prod.mk.injEq] at h; obtain ⟨rfl, rfl, rfl⟩ := h
      refine wp_block (wp_mono (ihC nt x T s _ _ _ h1 ho ι D a w hT he hf) ?_)
      rintro ex a1 w1 ⟨rfl, hq⟩
      show if i = id then _ else _
      rw [if_pos (Nat.eq_of_beq_eq_true hb)]
      exact ⟨rfl, hq⟩
     | false =>
      rw [hb] at h
      injection h with h; simp only [Prod.mk.injEq] at h; obtain ⟨rfl, rfl, rfl⟩ := h
      refine wp_block (wp_mono (ihC nt x T s _ _ _ h1 ho ι D a w hT he hf) ?_)
      rintro ex a1 w1 ⟨rfl, hq⟩
      show if i = id then _ else _
      rw [if_neg (fun e => by rw [ZkY e] at hb; cases hb)]
      exact ⟨rfl, hq⟩
    ·rename_i T1 s1 h1
     injection h with h; simp only [Prod.mk.injEq] at h; obtain ⟨rfl, rfl, rfl⟩ := h
     refine wp_block (wp_mono (ihC nt x T s _ _ _ h1 ho ι D a w hT he hf) ?_)
     rintro ex a1 w1 ⟨rfl, hq⟩
     exact ⟨rfl, hq⟩
    ·rename_i T1 s1 h1
     injection h with h; simp only [Prod.mk.injEq] at h; obtain ⟨rfl, rfl, rfl⟩ := h
     refine wp_block (wp_mono (ihC nt x T s _ _ _ h1 ho ι D a w hT he hf) ?_)
     rintro ex a1 w1 ⟨rfl, hq⟩
     exact ⟨rfl, hq⟩
    ·cases h
   case loop x =>
    exact wp_loop_rounds (fu + 1) (loops nt x T s e T' s' h0 ho ι D a w hT he hf)
   case region id ops draw =>
    cases draw with
    | true =>
     simp only [cond_true] at h
     split at h
     ·rename_i es T1 s1 h1
      injection h with h; simp only [Prod.mk.injEq] at h; obtain ⟨rfl, rfl, rfl⟩ := h
      exact Zyf F (fun fu' hfu => (ihs fu' (by omega)).2.2.1) h1 ho hT he hf fun ι' a' w' g1 g2 g3 => ⟨rfl, ι', g1, g2, g3⟩
     ·cases h
    | false =>
    simp only [cond_false] at h
    split at h
    ·rename_i T1 s1 h1
     injection h with h; simp only [Prod.mk.injEq] at h; obtain ⟨rfl, rfl, rfl⟩ := h
     refine wp_region_list (ihO nt ops ops.toList T s T1 s1 h1 ho ι D a w _ hT he hf fun ι' a' w' g1 g2 g3 => ⟨rfl, ι', g1, g2, g3⟩)
    ·cases h
   all_goals cases h
  ·cases l with
   | nil =>
    simp only [Zi9, St.keep_eq] at h
    injection h with h; simp only [Prod.mk.injEq] at h; obtain ⟨rfl, rfl⟩ := h
    exact hQ ι a w (Step.refl he) Dom.refl hT
   | cons o l =>
    simp only [Zi9, St.keep_eq] at h
    obtain ⟨hg, h⟩ := Zo h
    simp only [Bool.and_eq_true] at hg
    unfold wpList
    split at h
    ·rename_i s1 hw
     split at h
     ·rename_i v s2 hv
      have u1 := Zd8 hw
      have u2 := upP _ _ _ _ _ hv
      have u3 := upO _ _ _ _ _ _ _ h
      obtain ⟨hwant, e2, e3⟩ := ZfX (fun t _ => hT.2.2 t) hw
      rw [if_pos hwant]
      refine .inl (ihP (opnd T) (ZcY a) o s1 v s2 hv (ZaY u3.ob ho) ι w hT.opnd (e2 ▸ he) (e3 ▸ (hf.mono (Nat.le_refl _) u3.n)) a _ Q (Zkd (Zqh hv) hg.2).symm fun v' w' ι' g1 g2 g3 => ?_)
      rw [e2] at g1
      rw [e3] at g2
      have hle : s.n ≤ s2.n := by rw [← e3]; exact u2.n
      exact ihO nt ops l (ZfQ T o.dst v) s2 T' s' h ho ι' D _ w' Q ((hT.on g1.ext).put hg.1 g3) g1.emb (hf.after g2 hle) fun ι2 a2 w2 k1 k2 k3 =>
       hQ ι2 a2 w2 (g1.trans k1) (g2.trans k2 hle u3.n) k3
     ·cases h
    ·rename_i s1 hw
     have u1 := Zd8 hw
     have u3 := upO _ _ _ _ _ _ _ h
     obtain ⟨hwant, e2, e3⟩ := ZfX (fun t _ => hT.2.2 t) hw
     rw [if_neg (by rw [hwant]; simp)]
     refine ihO nt ops l (ZfQ T o.dst undef) s1 T' s' h ho ι D _ w Q (hT.put hg.1 VR.undef') (e2 ▸ he) (e3 ▸ hf) fun ι2 a2 w2 k1 k2 k3 => hQ ι2 a2 w2 (e2 ▸ k1) (e3 ▸ k2) k3
    ·cases h
  ·simp only [ZhT] at h
   split at h
   ·rename_i c hc
    obtain ⟨hop, _⟩ := Zxv hc
    split at h
    ·rename_i f args hcal
     obtain ⟨args', hrun, hargs⟩ := ZvV (P := P) hρ hop hcal w
     rw [← hex] at hrun
     split at h
     ·rename_i kk e hx
      split at h
      ·rename_i z c1 s1 hw
       obtain ⟨e1, e2, _⟩ := Zaw hw
       obtain ⟨s2, s3, h4, e3, e4, e5, e6, ho3⟩ := Zye ho h rfl
       exact Zn5 (((hrun ▸ Zsa F hx hargs (s := s2) (by rw [e3, e1]; exact he) ho3 h4).heap (e3.trans e1).symm (e4.trans e2).symm).behind e5 e6) hK
      ·cases h
      ·rename_i s1 hw
       obtain ⟨e1, e2, _⟩ := Zaw hw
       exact Zn5 ((hrun ▸ Zsa F hx hargs (s := s1) (e1 ▸ he) ho h).heap e1.symm e2.symm) hK
     ·rename_i n hx
      exact Zn5 (hrun ▸ Zyd F hx hargs he h) hK
     ·rename_i g hx
      have hd := F.hp f g hx
      obtain ⟨fn, c', hfn, hb⟩ := hd.body
      unfold Oper.wp
      rw [hrun, ZeS hfn (F.go f fn hfn) hb, Oper.upon_enter]
      refine (hd.does args s v s' h ho ι w args' hargs he hf).mono ?_
      rintro e2 w2 ⟨v', ι', rfl, g1, g2, g3⟩
      exact hK v' w2 ι' g1 g2 g3
     ·rename_i S hx
      split at h
      ·rename_i pre u post dn s1 hw
       obtain ⟨e1, e2, _⟩ := Zaw hw
       obtain ⟨⟨fn, c', hfn, hb⟩, hS⟩ := F.tc f S hx
       unfold Oper.wp
       rw [hrun, ZeS hfn (F.go f fn hfn) hb, Oper.upon_enter]
       refine (Zyc hS h ho hargs (e1 ▸ he) (e2 ▸ hf)).mono ?_
       rintro e2' w2 ⟨v', ι', rfl, g1, g2, g3⟩
       exact hK v' w2 ι' (e1 ▸ g1) (e2 ▸ g2) g3
      ·cases h
     ·rename_i g hx
      unfold ZxL at h
      obtain ⟨hfree, h⟩ := Zo h
      split at h
      ·rename_i v1 hg
       obtain ⟨hfv, h⟩ := Zo h
       injection h with h; injection h with q1 q2; subst q1 q2
       have hae : args' = args := ZtG hargs.1 fun i x y hx1 hy1 => (hargs.2 i x y hx1 hy1).eq_of_free (ZbZ hfree i x hx1)
       subst hae
       obtain ⟨⟨fn, c', hfn, hb⟩, hcall⟩ := F.fn f g hx
       unfold Oper.wp
       rw [hrun, ZeS hfn (F.go f fn hfn) hb, Oper.upon_enter]
       refine (hcall args' v1 hfree hg w).mono ?_
       rintro e2 w2 ⟨rfl, hbel⟩
       exact hK v1 w2 ι (Step.below he hbel) Dom.refl (VR.of_free hfv)
      ·cases h
     ·have hcalls := ihF f args s v s' h ho ι w args' hargs he hf
      cases fu with
      | zero => simp [Zeh] at h
      | succ fu' =>
       have h' := h
       simp only [Zeh] at h'
       split at h'
       ·rename_i fn hfn
        split at h'
        ·rename_i c' hb
         unfold Oper.wp
         rw [hrun, ZeS hfn (F.go f fn hfn) hb, Oper.upon_enter]
         refine hcalls.mono ?_
         rintro e2 w2 ⟨v', ι', rfl, g1, g2, g3⟩
         exact hK v' w2 ι' g1 g2 g3
        ·cases h'
       ·cases h'
    ·cases h
   ·split at h
    ·rename_i v1 s1 h1
     injection h with h
     obtain ⟨e1, e2, e3⟩ := ZzT h ho
     subst e1
     rw [e2, e3] at hK
     rw [e3] at hf
     have := ZyA hρ he hf (ZaY (Zx6 h).ob ho) h1
     rw [← hex] at this
     exact Zn5 this hK
    ·cases h
  ·simp only [Zeh] at h
   split at h
   ·rename_i fn hfn
    split at h
    ·rename_i c hb
     obtain ⟨hsz, h⟩ := Zo h
     have hle : args.size ≤ fn.ntmps := Nat.le_of_ble_eq_true hsz
     split at h
     ·cases h
     ·rename_i ex T1 s1 hne h1
      have hs : s' = s1 ∧ (match ZbY P T1 s1 fn.results.toList with | some [v] => some v | some vs => some (.tuple vs.toArray) | none => none) = some v := by
       split at h
       ·rename_i hr; injection h with h; injection h with q1 q2; subst q1 q2; exact ⟨rfl, by rw [hr]⟩
       ·rename_i vs hn hr; injection h with h; injection h with q1 q2; subst q1 q2
        refine ⟨rfl, ?_⟩
        rw [hr]
        rcases vs with _ | ⟨x, _ | ⟨y, vs⟩⟩
        ·rfl
        ·exact absurd rfl (hn x)
        ·rfl
       ·cases h
      obtain ⟨rfl, hres⟩ := hs
      refine calls_of_wp hfn hb (wp_mono (ihC fn.ntmps c _ s ex T1 s' h1 ho ι [] _ w (ZlE ha hle) he hf) ?_)
      rintro e2 a2 w2 ⟨rfl, ι2, g1, g2, g3⟩
      obtain ⟨v', hrun, hv⟩ := ZfR g3 g1.emb hres
      cases ex with
      | normal => exact ⟨g3.2.1, v', hrun, v', ι2, rfl, g1, g2, hv⟩
      | ret => exact ⟨g3.2.1, v', hrun, v', ι2, rfl, g1, g2, hv⟩
      | exit i => exact (hne i rfl).elim
     ·cases h
    ·cases h
   ·cases h

theorem Zx9 {ι : Ren} : VRs ι ([] : List Value).toArray ([] : List Value).toArray := ⟨rfl, fun i x y hx => by simp at hx⟩
theorem ZtL {ι : Ren} {x y : Value} {l l' : List Value} (h : VR ι x y) (t : VRs ι l.toArray l'.toArray) : VRs ι (x :: l).toArray (y :: l').toArray := by
 refine ⟨by simpa using t.1, fun i u v hu hv => ?_⟩
 cases i with
 | zero => simp at hu hv; subst hu hv; exact h
 | succ i => exact t.2 i u v (by simpa using hu) (by simpa using hv)
theorem Z0k (F : Fit P ext) {fu : Nat} {f : FuncId} {args args' : Array Value} {v : Value} {s' : St} {orc : Orc} (h : Zeh P ext fu f args ⟨.nil, 0, [], orc, []⟩ = some (v, s')) (ho : ∀ p ∈ s'.ob, p.1 = p.2) (ha : VRs (fun _ => none) args args') (hv : ZeP v = true) (hn : s'.n ≤ far) (w : World) :
  Calls P f args' w fun e w' => e = .returned v ∧ Below w.heap.size w w' := by
 have hF := (ZfD (P := P) F fu).2.2.2.1 f args _ v s' h ho (fun _ => none) w args' ha
  ⟨fun k c t hk => by simp [Tr.get_nil] at hk, fun k O hk => by simp [Tr.get_nil] at hk, fun k k' b b' hk => by simp [Tr.get_nil, isC] at hk, fun k b hk => by cases hk⟩ ⟨hn, fun _ _ _ => rfl⟩
 refine hF.mono ?_
 rintro e w' ⟨v', ι', rfl, g1, g2, g3⟩
 have := g3.eq_of_free hv
 subst this
 exact ⟨rfl, g1.os, g1.tape, g1.output, g1.size, fun k hk => g1.frame k hk fun j c hj => by simp [Tr.get_nil, isC] at hj⟩
theorem VRs.of_free {ι : Ren} {args : Array Value} (ha : ZS ZeP args.toList = true) : VRs ι args args := ⟨rfl, fun i x y hx hy => by rw [hx] at hy; injection hy with hy; subst hy; exact VR.of_free (ZbZ ha i x hx)⟩
end
end Ev
end Go.Proofs.YtgpekgedjmhmeaaGreat
/- Functions with deferred calls. -/
namespace Go.Proofs.YtgpekgedjmhmeaaGreat
open Go.RowKit
namespace Ev
noncomputable section
def ZxA (o : Oper) : Option Call :=
 match o.op with
 | .defer c => some c
 | _ => none
def ZhJ (P : Program) (ext : FuncId → Option Ext) (nt fu : Nat) (ops : Array Oper) : List Oper → Tr Value → St → List (FuncId × Array Value) → Option (Tr Value × St × List (FuncId × Array Value))
 | [], T, s, ds => some (T, s, ds)
 | o :: l, T, s, ds =>
  bif ZhQ nt o.dst && ZS ZhF o.op.operands.toList then
   match ZgD ops T o s with
   | some (true, s1) => match ZxA o with
    | some c => match callee (opnd T) c with
     | some (f, args) => ZhJ P ext nt fu ops l (ZfQ T o.dst undef) s1 ((f, args) :: ds)
     | none => none
    | none => match ZhT P ext fu (opnd T) o s1 with
     | some (v, s') => ZhJ P ext nt fu ops l (ZfQ T o.dst v) s' ds
     | none => none
   | some (false, s1) => ZhJ P ext nt fu ops l (ZfQ T o.dst undef) s1 ds
   | none => none
  else none
def evD (P : Program) (ext : FuncId → Option Ext) (nt : Nat) : Nat → Code → Tr Value → St → List (FuncId × Array Value) → Option (Bool × Tr Value × St × List (FuncId × Array Value))
 | 0, _, _, _, _ => none
 | fu + 1, c, T, s, ds => match c with
  | .seq a b => match evD P ext nt fu a T s ds with
   | some (false, T', s', ds') => evD P ext nt fu b T' s' ds'
   | some (true, T', s', ds') => some (true, T', s', ds')
   | none => none
  | .cond x a b => match opnd T x with
   | .bool t => match t with
    | true => evD P ext nt fu a T s ds
    | false => evD P ext nt fu b T s ds
   | _ => none
  | .region _ ops draw => match draw with
   | true => none
   | false => match ZhJ P ext nt fu ops ops.toList T s ds with
    | some (T', s', ds') => some (false, T', s', ds')
    | none => none
  | .skip => some (false, T, s, ds)
  | .ret => some (true, T, s, ds)
  | _ => none
def Zi1 (P : Program) (ext : FuncId → Option Ext) (fu : Nat) : List (FuncId × Array Value) → St → Option St
 | [], s => some s
 | d :: ds, s => match Zeh P ext fu d.1 d.2 s with
  | some (_, s') => Zi1 P ext fu ds s'
  | none => none
def ZsJ (P : Program) (ext : FuncId → Option Ext) (fu : Nat) (f : FuncId) (args : Array Value) (s : St) : Out :=
 match P.funcs[f]? with
 | some fn => match fn.body with
  | some c => bif Nat.ble args.size fn.ntmps then match evD P ext fn.ntmps fu c (Zhp 0 args.toList .nil) s [] with
   | some (_, T, s', ds) => match Zi1 P ext fu ds s' with
    | some s2 => match ZbY P T s2 fn.results.toList with
     | some [v] => some (v, s2)
     | some vs => some (.tuple vs.toArray, s2)
     | none => none
    | none => none
   | none => none
   else none
  | none => none
 | none => none
end
section
variable {P : Program} {ext : FuncId → Option Ext}
def DR (ι : Ren) : List (FuncId × Array Value) → List Deferred → Prop
 | [], [] => True
 | d :: ds, x :: D => (∃ b, x.target = .fn (.func d.1) b ∧ VRs ι d.2 (x.args ++ b)) ∧ DR ι ds D
 | _, _ => False
theorem DR.on {ι ι' : Ren} (hi : ∀ k b, ι k = some b → ι' k = some b) : ∀ {ds : List (FuncId × Array Value)} {D : List Deferred}, DR ι ds D → DR ι' ds D
 | [], [], _ => trivial
 | [], _ :: _, h => h.elim
 | _ :: _, [], h => h.elim
 | _ :: _, _ :: _, h => ⟨let ⟨b, h1, h2⟩ := h.1; ⟨b, h1, h2.ext hi⟩, DR.on hi h.2⟩
theorem Zxw {ι : Ren} {ρ ρ' : Operand → Value} {o : Oper} {c : Call} {f : FuncId} {args : Array Value} (hρ : ∀ x, VR ι (ρ x) (ρ' x)) (ho : o.op = .defer c) (h : callee ρ c = some (f, args)) (w : World) :
  ∃ d b, (execOp ρ' o).run P w = .ok (.defer d) w ∧ d.target = .fn (.func f) b ∧ VRs ι args (d.args ++ b) := by
 unfold callee at h
 split at h
 ·rename_i x hx
  split at h
  ·rename_i g a b hg
   injection h with h; injection h with h1 h2; subst h1 h2
   have hv := hg ▸ hρ x
   have : ∃ a' b', ρ' x = .func (.func g) a' b' ∧ VRs ι a a' ∧ VRs ι b b' := by
    generalize ρ' x = x' at hv
    cases hv with
    | atom h =>
     simp [Ev.atom] at h
     obtain ⟨rfl, rfl⟩ := h
     exact ⟨_, _, rfl, ⟨rfl, fun i x y hx => by simp at hx⟩, ⟨rfl, fun i x y hx => by simp at hx⟩⟩
    | func hs ht h1 h2 => exact ⟨_, _, rfl, ⟨hs, h1⟩, ⟨ht, h2⟩⟩
   obtain ⟨a', b', hx', ha, hb⟩ := this
   refine ⟨{ target := .fn (.func g) b', args := a' ++ c.args.map ρ' }, b', ?_, rfl, Zgx (Zgx ha (ZlD hρ c.args)) hb⟩
   simp [execOp, ho, resolve, hx, hx', Deferred.ofValue, Result.andThen, Sem.run]
  ·cases h
 ·cases h
theorem Zp1 (F : Fit P ext) {nt fu : Nat} {ops : Array Oper} : ∀ (l : List Oper) (T : Tr Value) (s : St) (ds : List (FuncId × Array Value)) (T' : Tr Value) (s' : St) (ds' : List (FuncId × Array Value)), ZhJ P ext nt fu ops l T s ds = some (T', s', ds') → Up s s'
 | [], T, s, ds, T', s', ds', h => by simp only [ZhJ] at h; injection h with h; simp only [Prod.mk.injEq] at h; obtain ⟨_, rfl, _⟩ := h; exact Up.refl _
 | o :: l, T, s, ds, T', s', ds', h => by
  simp only [ZhJ] at h
  replace h := (Zo h).2
  have uP := (ZeN (P := P) (ext := ext) (fun f g hg => (F.hp f g hg).up) fu).2.2.1
  split at h
  ·split at h
   ·split at h
    ·exact (Zd8 (by assumption)).trans (Zp1 F l _ _ _ _ _ _ h)
    ·cases h
   ·split at h
    ·exact (Zd8 (by assumption)).trans ((uP _ _ _ _ _ (by assumption)).trans (Zp1 F l _ _ _ _ _ _ h))
    ·cases h
  ·exact (Zd8 (by assumption)).trans (Zp1 F l _ _ _ _ _ _ h)
  ·cases h
theorem Zqi (F : Fit P ext) {nt : Nat} : ∀ (fu : Nat) (c : Code) (T : Tr Value) (s : St) (ds : List (FuncId × Array Value)) (r : Bool) (T' : Tr Value) (s' : St) (ds' : List (FuncId × Array Value)), evD P ext nt fu c T s ds = some (r, T', s', ds') → Up s s'
 | 0, _, _, _, _, _, _, _, _, h => by simp [evD] at h
 | fu + 1, c, T, s, ds, r, T', s', ds', h => by
  cases c <;> simp only [evD] at h
  case seq a b =>
   split at h
   ·exact (Zqi F fu _ _ _ _ _ _ _ _ (by assumption)).trans (Zqi F fu _ _ _ _ _ _ _ _ h)
   ·injection h with h; simp only [Prod.mk.injEq] at h; obtain ⟨_, _, rfl, _⟩ := h; exact Zqi F fu _ _ _ _ _ _ _ _ (by assumption)
   ·cases h
  case cond x a b =>
   split at h
   ·split at h
    ·exact Zqi F fu _ _ _ _ _ _ _ _ h
    ·exact Zqi F fu _ _ _ _ _ _ _ _ h
   ·cases h
  case region id ops draw =>
   split at h
   ·cases h
   ·split at h
    ·injection h with h; simp only [Prod.mk.injEq] at h; obtain ⟨_, _, rfl, _⟩ := h; exact Zp1 F _ _ _ _ _ _ _ (by assumption)
    ·cases h
  case skip => injection h with h; simp only [Prod.mk.injEq] at h; obtain ⟨_, _, rfl, _⟩ := h; exact Up.refl _
  case ret => injection h with h; simp only [Prod.mk.injEq] at h; obtain ⟨_, _, rfl, _⟩ := h; exact Up.refl _
  all_goals cases h
theorem Zqj (F : Fit P ext) {fu : Nat} : ∀ (ds : List (FuncId × Array Value)) (s s' : St), Zi1 P ext fu ds s = some s' → Up s s'
 | [], s, s', h => by simp only [Zi1] at h; injection h with h; subst h; exact Up.refl _
 | d :: ds, s, s', h => by
  simp only [Zi1] at h
  split at h
  ·exact ((ZeN (P := P) (ext := ext) (fun f g hg => (F.hp f g hg).up) fu).2.2.2.1 _ _ _ _ _ (by assumption)).trans (Zqj F ds _ _ h)
  ·cases h
theorem Zl8 (F : Fit P ext) {nt fu : Nat} {ops : Array Oper} : ∀ (l : List Oper) (T : Tr Value) (s : St) (ds : List (FuncId × Array Value)) (T' : Tr Value) (s' : St) (ds' : List (FuncId × Array Value)), ZhJ P ext nt fu ops l T s ds = some (T', s', ds') → (∀ p ∈ s'.ob, p.1 = p.2) →
  ∀ ι D a w (Q : Exit → Act → World → Prop), TR ι nt D T a → DR ι ds D → Emb P ι s.h.get w → Fresh ι s.n s'.n →
   (∀ ι' D' a' w', Step P ι s.h.get w ι' s'.h.get w' → Dom ι ι' s.n s'.n → TR ι' nt D' T' a' → DR ι' ds' D' → Q .normal a' w') → wpList P ops Q l a w
 | [], T, s, ds, T', s', ds', h, ho, ι, D, a, w, Q, hT, hD, he, hf, hQ => by
  simp only [ZhJ] at h
  injection h with h; simp only [Prod.mk.injEq] at h; obtain ⟨rfl, rfl, rfl⟩ := h
  exact hQ ι D a w (Step.refl he) Dom.refl hT hD
 | o :: l, T, s, ds, T', s', ds', h, ho, ι, D, a, w, Q, hT, hD, he, hf, hQ => by
  simp only [ZhJ] at h
  obtain ⟨hg, h⟩ := Zo h
  simp only [Bool.and_eq_true] at hg
  unfold wpList
  split at h
  ·rename_i s1 hw
   have u1 := Zd8 hw
   obtain ⟨hwant, e2, e3⟩ := ZfX (fun t _ => hT.2.2 t) hw
   rw [if_pos hwant]
   split at h
   ·rename_i c hc
    have hop : o.op = .defer c := by
     unfold ZxA at hc
     split at hc
     ·rename_i c' h'; injection hc with hc; subst hc; exact h'
     ·cases hc
    split at h
    ·rename_i f args hcal
     obtain ⟨d, b, hrun, h1, h2⟩ := Zxw (P := P) hT.opnd hop hcal w
     rw [Zkd (fun cs b e => by rw [hop] at e; cases e) hg.2] at hrun
     refine .inl ?_
     unfold Oper.wp
     rw [hrun, Oper.upon_defer]
     refine Zl8 F l _ s1 _ T' s' ds' h ho ι (d :: D) _ w Q ?_ ⟨⟨b, h1, h2⟩, hD⟩ (e2 ▸ he) (e3 ▸ hf) fun ι2 D2 a2 w2 k1 k2 k3 k4 => hQ ι2 D2 a2 w2 (e2 ▸ k1) (e3 ▸ k2) k3 k4
     exact TR.put (a := { a with defers := d :: a.defers }) ⟨hT.1, by rw [hT.2.1], hT.2.2⟩ hg.1 VR.undef'
    ·cases h
   ·split at h
    ·rename_i v s2 hv
     have ua := ZeN (P := P) (ext := ext) (fun f g hg => (F.hp f g hg).up) fu
     have u2 := ua.2.2.1 _ _ _ _ _ hv
     have u3 := Zp1 F _ _ _ _ _ _ _ h
     refine .inl ((ZfD F fu).2.2.1 (opnd T) (ZcY a) o s1 v s2 hv (ZaY u3.ob ho) ι w hT.opnd (e2 ▸ he) (e3 ▸ (hf.mono (Nat.le_refl _) u3.n)) a _ Q (Zkd (Zqh hv) hg.2).symm fun v' w' ι' g1 g2 g3 => ?_)
     rw [e2] at g1
     rw [e3] at g2
     have hle : s.n ≤ s2.n := by rw [← e3]; exact u2.n
     exact Zl8 F l (ZfQ T o.dst v) s2 ds T' s' ds' h ho ι' D _ w' Q ((hT.on g1.ext).put hg.1 g3) (hD.on g1.ext) g1.emb (hf.after g2 hle) fun ι2 D2 a2 w2 k1 k2 k3 k4 =>
      hQ ι2 D2 a2 w2 (g1.trans k1) (g2.trans k2 hle u3.n) k3 k4
    ·cases h
  ·rename_i s1 hw
   have u1 := Zd8 hw
   obtain ⟨hwant, e2, e3⟩ := ZfX (fun t _ => hT.2.2 t) hw
   rw [if_neg (by rw [hwant]; simp)]
   exact Zl8 F l (ZfQ T o.dst undef) s1 ds T' s' ds' h ho ι D _ w Q (hT.put hg.1 VR.undef') hD (e2 ▸ he) (e3 ▸ hf) fun ι2 D2 a2 w2 k1 k2 k3 k4 => hQ ι2 D2 a2 w2 (e2 ▸ k1) (e3 ▸ k2) k3 k4
  ·cases h
def PostD (P : Program) (ι : Ren) (s : St) (w : World) (nt : Nat) (r : Bool) (T' : Tr Value) (s' : St) (ds' : List (FuncId × Array Value)) (ex : Exit) (a' : Act) (w' : World) : Prop :=
 ex = (match r with | true => .ret | false => .normal) ∧ ∃ ι' D', Step P ι s.h.get w ι' s'.h.get w' ∧ Dom ι ι' s.n s'.n ∧ TR ι' nt D' T' a' ∧ DR ι' ds' D'
theorem ZlF (F : Fit P ext) {nt : Nat} : ∀ (fu : Nat) (c : Code) (T : Tr Value) (s : St) (ds : List (FuncId × Array Value)) (r : Bool) (T' : Tr Value) (s' : St) (ds' : List (FuncId × Array Value)), evD P ext nt fu c T s ds = some (r, T', s', ds') → (∀ p ∈ s'.ob, p.1 = p.2) →
  ∀ ι D a w, TR ι nt D T a → DR ι ds D → Emb P ι s.h.get w → Fresh ι s.n s'.n → c.wp P (PostD P ι s w nt r T' s' ds') a w
 | 0, _, _, _, _, _, _, _, _, h => by simp [evD] at h
 | fu + 1, c, T, s, ds, r, T', s', ds', h => by
  intro ho ι D a w hT hD he hf
  cases c <;> simp only [evD] at h
  case seq x y =>
   split at h
   ·rename_i T1 s1 ds1 h1
    have u1 := Zqi F fu _ _ _ _ _ _ _ _ h1
    have u2 := Zqi F fu _ _ _ _ _ _ _ _ h
    refine wp_seq (wp_mono (ZlF F fu x T s ds _ T1 s1 ds1 h1 (ZaY u2.ob ho) ι D a w hT hD he (hf.mono (Nat.le_refl _) u2.n)) ?_)
    rintro ex a1 w1 ⟨rfl, ι1, D1, g1, g2, g3, g4⟩
    refine wp_mono (ZlF F fu y T1 s1 ds1 r T' s' ds' h ho ι1 D1 a1 w1 g3 g4 g1.emb (hf.after g2 u1.n)) ?_
    rintro ex a2 w2 ⟨rfl, ι2, D2, k1, k2, k3, k4⟩
    exact ⟨rfl, ι2, D2, g1.trans k1, g2.trans k2 u1.n u2.n, k3, k4⟩
   ·rename_i T1 s1 ds1 h1
    injection h with h; simp only [Prod.mk.injEq] at h; obtain ⟨rfl, rfl, rfl, rfl⟩ := h
    refine wp_seq (wp_mono (ZlF F fu x T s ds _ _ _ _ h1 ho ι D a w hT hD he hf) ?_)
    rintro ex a1 w1 ⟨rfl, hq⟩
    exact ⟨rfl, hq⟩
   ·cases h
  case cond x y z =>
   split at h
   ·rename_i t ht
    have hx : a.eval x = .bool t := Zhs ((ht ▸ hT.opnd x : VR ι (.bool t) (ZcY a x)).bool_inv)
    split at h
    ·exact wp_cond_true hx (ZlF F fu y T s ds r T' s' ds' h ho ι D a w hT hD he hf)
    ·exact wp_cond_false hx (ZlF F fu z T s ds r T' s' ds' h ho ι D a w hT hD he hf)
   ·cases h
  case region id ops draw =>
   split at h
   ·cases h
   ·split at h
    ·rename_i T1 s1 ds1 h1
     injection h with h; simp only [Prod.mk.injEq] at h; obtain ⟨rfl, rfl, rfl, rfl⟩ := h
     exact wp_region_list (Zl8 F ops.toList T s ds T1 s1 ds1 h1 ho ι D a w _ hT hD he hf fun ι' D' a' w' g1 g2 g3 g4 => ⟨rfl, ι', D', g1, g2, g3, g4⟩)
    ·cases h
  case skip => injection h with h; simp only [Prod.mk.injEq] at h; obtain ⟨rfl, rfl, rfl, rfl⟩ := h; exact wp_skip ⟨rfl, ι, D, Step.refl he, Dom.refl, hT, hD⟩
  case ret => injection h with h; simp only [Prod.mk.injEq] at h; obtain ⟨rfl, rfl, rfl, rfl⟩ := h; exact wp_ret ⟨rfl, ι, D, Step.refl he, Dom.refl, hT, hD⟩
  all_goals cases h
theorem Z0a (F : Fit P ext) {fu : Nat} {f : FuncId} {args args' : Array Value} {s s' : St} {v : Value} (h : Zeh P ext fu f args s = some (v, s')) (ho : ∀ p ∈ s'.ob, p.1 = p.2) {ι : Ren} {w : World} (ha : VRs ι args args') (he : Emb P ι s.h.get w) (hf : Fresh ι s.n s'.n) :
  ∃ fn c, P.funcs[f]? = some fn ∧ fn.body = some c ∧ c.wp P (bodyPost P fn (ZsH P ι s w v s')) { tmps := args' ++ Array.replicate (fn.ntmps - args'.size) undef, defers := [] } w := by
 cases fu with
 | zero => simp [Zeh] at h
 | succ fu =>
  simp only [Zeh] at h
  split at h
  ·rename_i fn hfn
   split at h
   ·rename_i c hb
    obtain ⟨hsz, h⟩ := Zo h
    have hle : args.size ≤ fn.ntmps := Nat.le_of_ble_eq_true hsz
    split at h
    ·cases h
    ·rename_i ex T1 s1 hne h1
     have hs : s' = s1 ∧ (match ZbY P T1 s1 fn.results.toList with | some [v] => some v | some vs => some (.tuple vs.toArray) | none => none) = some v := by
      split at h
      ·rename_i hr; injection h with h; injection h with q1 q2; subst q1 q2; exact ⟨rfl, by rw [hr]⟩
      ·rename_i vs hn hr; injection h with h; injection h with q1 q2; subst q1 q2
       refine ⟨rfl, ?_⟩
       rw [hr]
       rcases vs with _ | ⟨x, _ | ⟨y, vs⟩⟩
       ·rfl
       ·exact absurd rfl (hn x)
       ·rfl
      ·cases h
     obtain ⟨rfl, hres⟩ := hs
     refine ⟨fn, c, hfn, hb, wp_mono ((ZfD F fu).1 fn.ntmps c _ s ex T1 s' h1 ho ι [] _ w (ZlE ha hle) he hf) ?_⟩
     rintro e2 a2 w2 ⟨rfl, ι2, g1, g2, g3⟩
     obtain ⟨v', hrun, hv⟩ := ZfR g3 g1.emb hres
     cases ex with
     | normal => exact ⟨g3.2.1, v', hrun, v', ι2, rfl, g1, g2, hv⟩
     | ret => exact ⟨g3.2.1, v', hrun, v', ι2, rfl, g1, g2, hv⟩
     | exit i => exact (hne i rfl).elim
    ·cases h
   ·cases h
  ·cases h
theorem ZtF (F : Fit P ext) {fu : Nat} {fn : Func} {tmps : Array Value} {R : Ending → World → Prop} : ∀ (ds : List (FuncId × Array Value)) (s s' : St), Zi1 P ext fu ds s = some s' → (∀ p ∈ s'.ob, p.1 = p.2) →
  ∀ ι D w, DR ι ds D → Emb P ι s.h.get w → Fresh ι s.n s'.n → (∀ ι' w', Step P ι s.h.get w ι' s'.h.get w' → Dom ι ι' s.n s'.n → Leaves P fn tmps R [] .returning w') → Leaves P fn tmps R D .returning w
 | [], s, s', h, ho, ι, D, w, hD, he, hf, hR => by
  simp only [Zi1] at h
  injection h with h; subst h
  cases D with
  | nil => exact hR ι w (Step.refl he) Dom.refl
  | cons _ _ => exact hD.elim
 | d :: ds, s, s', h, ho, ι, D, w, hD, he, hf, hR => by
  simp only [Zi1] at h
  split at h
  ·rename_i v s1 h1
   cases D with
   | nil => exact hD.elim
   | cons x D =>
    obtain ⟨⟨b, ht, hargs⟩, hD⟩ := hD
    have u1 := (ZeN (P := P) (ext := ext) (fun f g hg => (F.hp f g hg).up) fu).2.2.2.1 _ _ _ _ _ h1
    have u2 := Zqj F ds _ _ h
    obtain ⟨fn', c, hfn, hb, hwp⟩ := Z0a F h1 (ZaY u2.ob ho) hargs he (hf.mono (Nat.le_refl _) u2.n)
    refine ⟨by simp, _, _, d.1, x.args ++ b, ht, ?_, ?_⟩
    ·rw [ht]
     exact ZeS hfn (F.go _ _ hfn) hb _ _
    ·refine (callsD_of_wp (u := .returning) hfn hb hwp).mono ?_
     rintro e u' w' ⟨rfl, v', ι', rfl, g1, g2, g3⟩
     exact ZtF F ds s1 s' h ho ι' D w' (hD.on g1.ext) g1.emb (hf.after g2 u1.n) fun ι2 w2 k1 k2 => hR ι2 w2 (g1.trans k1) (g2.trans k2 u1.n u2.n)
  ·cases h
theorem Zyg (F : Fit P ext) {fu : Nat} {f : FuncId} {fn : Func} {c : Code} (hfn : P.funcs[f]? = some fn) (hb : fn.body = some c) : Zvl P f (ZsJ P ext fu f) := by
 refine ⟨⟨fn, c, hfn, hb⟩, fun args s v s' h => ?_, fun args s v s' h ho ι w args' ha he hf => ?_⟩
 ·unfold ZsJ at h
  rw [hfn] at h
  simp only [hb] at h
  replace h := (Zo h).2
  split at h
  ·rename_i r T s1 ds h1
   split at h
   ·rename_i s2 h2
    have u := (Zqi F fu _ _ _ _ _ _ _ _ h1).trans (Zqj F _ _ _ h2)
    split at h
    ·injection h with h; injection h with q1 q2; subst q2; exact u
    ·injection h with h; injection h with q1 q2; subst q2; exact u
    ·cases h
   ·cases h
  ·cases h
 ·unfold ZsJ at h
  rw [hfn] at h
  simp only [hb] at h
  obtain ⟨hsz, h⟩ := Zo h
  have hle : args.size ≤ fn.ntmps := Nat.le_of_ble_eq_true hsz
  split at h
  ·rename_i r T s1 ds h1
   split at h
   ·rename_i s2 h2
    have hs : s' = s2 ∧ (match ZbY P T s2 fn.results.toList with | some [v] => some v | some vs => some (.tuple vs.toArray) | none => none) = some v := by
     split at h
     ·rename_i hr; injection h with h; injection h with q1 q2; subst q1 q2; exact ⟨rfl, rfl⟩
     ·rename_i vs hn hr; injection h with h; injection h with q1 q2; subst q1 q2
      exact ⟨rfl, rfl⟩
     ·cases h
    obtain ⟨rfl, hres⟩ := hs
    have u1 := Zqi F fu _ _ _ _ _ _ _ _ h1
    have u2 := Zqj F _ _ _ h2
    refine calls_of_wp_defers hfn hb (wp_mono (ZlF F fu c _ s [] r T s1 ds h1 (ZaY u2.ob ho) ι [] _ w (ZlE ha hle) trivial he (hf.mono (Nat.le_refl _) u2.n)) ?_)
    rintro ex a1 w1 ⟨rfl, ι1, D1, g1, g2, g3, g4⟩
    have key : Leaves P fn a1.tmps (ZsH P ι s w v s') a1.defers .returning w1 := by
     rw [g3.2.1]
     refine ZtF F ds s1 s' h2 ho ι1 D1 w1 g4 g1.emb (hf.after g2 u1.n) fun ι2 w2 k1 k2 => ?_
     obtain ⟨v', hrun, hv⟩ := ZfR (g3.on k1.ext) k1.emb hres
     exact ⟨v', hrun, v', ι2, rfl, g1.trans k1, g2.trans k2 u1.n u2.n, hv⟩
    cases r <;> exact key
   ·cases h
  ·cases h
end
end Ev
end Go.Proofs.YtgpekgedjmhmeaaGreat
/- Loops by induction: a round by the runner, between rounds the blocks are numbered anew. -/
namespace Go.Proofs.YtgpekgedjmhmeaaGreat
open Go.RowKit
namespace Ev
def renA (ρ : Nat → Nat) : Value → Value
 | .pointer (some ⟨k, o, none⟩) => .pointer (some ⟨ρ k, o, none⟩)
 | .slice (some ⟨k, o, none⟩) n c => .slice (some ⟨ρ k, o, none⟩) n c
 | .map (some k) => .map (some (ρ k))
 | v => v
def ZiD (f : Value → Value) (a : Array Value) : Array Value := (a.toList.map f).toArray
theorem ZxB (f : Value → Value) (a : Array Value) : ZiD f a = a.map f := by
 unfold ZiD
 apply Array.ext' 
 simp
def Zb0 (ρ : Nat → Nat) : Nat → Value → Value
 | d + 1, .agg cs => .agg (ZiD (Zb0 ρ d) cs)
 | d + 1, .tuple cs => .tuple (ZiD (Zb0 ρ d) cs)
 | d + 1, .func f a b => .func f (ZiD (Zb0 ρ d) a) (ZiD (Zb0 ρ d) b)
 | _, v => renA ρ v
def ZaS : Nat → Value → Bool
 | d + 1, .agg cs => ZS (ZaS d) cs.toList
 | d + 1, .tuple cs => ZS (ZaS d) cs.toList
 | d + 1, .func _ a b => ZS (ZaS d) a.toList && ZS (ZaS d) b.toList
 | 0, .agg _ => false
 | 0, .tuple _ => false
 | 0, .func _ a b => a.isEmpty && b.isEmpty
 | _, _ => true
section
variable {P : Program} {ext : FuncId → Option Ext}
theorem ZlG {ι : Ren} {f : Value → Value} {a a' : Array Value} (hs : a.size = a'.size) (h : ∀ (i : Nat) x y, a[i]? = some x → a'[i]? = some y → VR ι (f x) y) : (ZiD f a).size = a'.size ∧ ∀ (i : Nat) x y, (ZiD f a)[i]? = some x → a'[i]? = some y → VR ι x y := by
 rw [ZxB]
 refine ⟨by simpa using hs, fun i x y hx hy => ?_⟩
 rw [Array.getElem?_map] at hx
 cases ha : a[i]? with
 | none => rw [ha] at hx; cases hx
 | some z => rw [ha] at hx; injection hx with hx; subst hx; exact h i z y ha hy
theorem ZvJ {ρ : Nat → Nat} {v : Value} (h : atom v = true) : renA ρ v = v := by
 cases v with
 | pointer a => cases a with
  | none => rfl
  | some a => simp [atom] at h
 | slice a n c => cases a with
  | none => rfl
  | some a => simp [atom] at h
 | map a => cases a with
  | none => rfl
  | some a => simp [atom] at h
 | _ => rfl
theorem Zn6 {ρ : Nat → Nat} (d : Nat) {v : Value} (h : atom v = true) : Zb0 ρ d v = v := by
 cases d with
 | zero => exact ZvJ h
 | succ d =>
  cases v with
  | agg cs => simp [atom] at h
  | tuple cs => simp [atom] at h
  | func f a b =>
   cases f <;> simp [atom] at h
   obtain ⟨h1, h2⟩ := h
   subst h1 h2
   simp [Zb0, ZiD]
  | _ => exact ZvJ h
theorem ZlH {ι ι2 : Ren} {ρ : Nat → Nat} (hι : ∀ k b, ι k = some b → ι2 (ρ k) = some b) : ∀ (d : Nat) (v v' : Value), VR ι v v' → ZaS d v = true → VR ι2 (Zb0 ρ d v) v'
 | d, v, v', h, hd => by
  cases h with
  | atom h => rw [Zn6 d h]; exact .atom h
  | glob h => cases d <;> exact .glob h
  | ptr h => cases d <;> exact .ptr (hι _ _ h)
  | map h => cases d <;> exact .map (hι _ _ h)
  | slice h hn hc hq => cases d <;> exact .slice (hι _ _ h) hn hc hq
  | slice0 h => cases d <;> exact .slice0 h
  | func hs ht h1 h2 =>
   cases d with
   | zero =>
    simp only [ZaS, Bool.and_eq_true, Array.isEmpty_iff] at hd
    obtain ⟨rfl, rfl⟩ := hd
    exact .func hs ht (fun i x y hx => by simp at hx) (fun i x y hx => by simp at hx)
   | succ d =>
    simp only [ZaS, Bool.and_eq_true] at hd
    obtain ⟨q1, q2⟩ := ZlG (f := Zb0 ρ d) hs fun i x y hx hy => ZlH hι d x y (h1 i x y hx hy) (ZbZ hd.1 i x hx)
    obtain ⟨q3, q4⟩ := ZlG (f := Zb0 ρ d) ht fun i x y hx hy => ZlH hι d x y (h2 i x y hx hy) (ZbZ hd.2 i x hx)
    exact .func q1 q3 q2 q4
  | agg hs h1 =>
   cases d with
   | zero => simp [ZaS] at hd
   | succ d =>
    simp only [ZaS] at hd
    obtain ⟨q1, q2⟩ := ZlG (f := Zb0 ρ d) hs fun i x y hx hy => ZlH hι d x y (h1 i x y hx hy) (ZbZ hd i x hx)
    exact .agg q1 q2
  | tuple hs h1 =>
   cases d with
   | zero => simp [ZaS] at hd
   | succ d =>
    simp only [ZaS] at hd
    obtain ⟨q1, q2⟩ := ZlG (f := Zb0 ρ d) hs fun i x y hx hy => ZlH hι d x y (h1 i x y hx hy) (ZbZ hd i x hx)
    exact .tuple q1 q2
theorem Zyh {ι ι2 : Ren} {ρ : Nat → Nat} (hι : ∀ k b, ι k = some b → ι2 (ρ k) = some b) {v v' : Value} (h : VR ι v v') : ∃ u, VR ι2 u v' := by
 have arr : ∀ {a a' : Array Value}, a.size = a'.size → (∀ (i : Nat) x y, a[i]? = some x → a'[i]? = some y → ∃ u, VR ι2 u y) → ∃ c : Array Value, c.size = a'.size ∧ ∀ (i : Nat) x y, c[i]? = some x → a'[i]? = some y → VR ι2 x y := fun {a a'} hs hx => by
  have each : ∀ i : Fin a'.size, ∃ u, VR ι2 u a'[i] := fun i => hx i a[i] a'[i] (Array.getElem?_eq_getElem (by omega)) (Array.getElem?_eq_getElem i.2)
  refine ⟨Array.ofFn fun i => (each i).choose, by simp, fun i x y h1 h2 => ?_⟩
  obtain ⟨hlt, rfl⟩ := Array.getElem?_eq_some_iff.1 h2
  rw [Array.getElem?_ofFn, dif_pos hlt] at h1
  injection h1 with h1
  subst h1
  exact (each ⟨i, hlt⟩).choose_spec
 induction h with
 | atom h => exact ⟨_, .atom h⟩
 | glob h => exact ⟨_, .glob (g := 0) h⟩
 | ptr h => exact ⟨_, .ptr (hι _ _ h)⟩
 | map h => exact ⟨_, .map (hι _ _ h)⟩
 | slice h hn hc hq => exact ⟨_, .slice (hι _ _ h) hn hc hq⟩
 | slice0 h => exact ⟨_, .slice0 (k := 0) (o := 0) h⟩
 | func hs ht h1 h2 ih1 ih2 =>
  obtain ⟨c, q1, q2⟩ := arr hs ih1
  obtain ⟨d, q3, q4⟩ := arr ht ih2
  exact ⟨_, .func q1 q3 q2 q4⟩
 | agg hs h1 ih =>
  obtain ⟨c, q1, q2⟩ := arr hs ih
  exact ⟨_, .agg q1 q2⟩
 | tuple hs h1 ih =>
  obtain ⟨c, q1, q2⟩ := arr hs ih
  exact ⟨_, .tuple q1 q2⟩
noncomputable def Zwd : Nat → Nat → (Nat → Option Value) → (Nat → Value) → Tr Value → Tr Value
 | 0, _, _, _, T => T
 | n + 1, t, L, gv, T => Zwd n (t + 1) L gv (T.set t (some (match L t with | some v => v | none => gv t)))
noncomputable def tmps (nt : Nat) (L : Nat → Option Value) (gv : Nat → Value) : Tr Value := Zwd nt 0 L gv .nil
theorem ZvK (L : Nat → Option Value) (gv : Nat → Value) : ∀ (n t : Nat) (T : Tr Value) (k : Nat), (Zwd n t L gv T).get k = if t ≤ k ∧ k < t + n then some (match L k with | some v => v | none => gv k) else T.get k
 | 0, t, T, k => by rw [if_neg (by omega)]; rfl
 | n + 1, t, T, k => by
  show (Zwd n (t + 1) L gv _).get k = _
  rw [ZvK L gv n (t + 1), Tr.get_set]
  by_cases hk : k = t
  ·subst hk
   rw [if_neg (by omega), Zy, if_pos (by omega)]
  ·rw [Zn hk]
   by_cases h : t + 1 ≤ k ∧ k < t + 1 + n
   ·rw [if_pos h, if_pos (by omega)]
   ·rw [if_neg h, if_neg (by omega)]
theorem ZwB (nt : Nat) (L : Nat → Option Value) (gv : Nat → Value) (k : Nat) : (tmps nt L gv).get k = if k < nt then some (match L k with | some v => v | none => gv k) else none := by
 unfold tmps
 rw [ZvK]
 by_cases h : k < nt
 ·rw [if_pos (by omega), if_pos h]
 ·rw [if_neg (by omega), if_neg h]; rfl
def At (P : Program) (nt : Nat) (T : Tr Value) (h : AH) (m M : Nat) (ι0 : Ren) (h0 : AH) (w0 : World) (a : Act) (w : World) : Prop :=
 ∃ ι, TR ι nt [] T a ∧ Step P ι0 h0 w0 ι h w ∧ ∀ k, m ≤ k → k < M → ι k = none
def rho (live : List Nat) (M : Nat) (k : Nat) : Nat := if k ∈ live then live.idxOf k else k + M
def sig (live : List Nat) (M : Nat) (j : Nat) : Option Nat := if j < live.length then live[j]? else if M ≤ j ∧ j - M ∉ live then some (j - M) else none
theorem Z0b {live : List Nat} {M : Nat} (hM : live.length ≤ M) (k : Nat) : sig live M (rho live M k) = some k := by
 unfold sig rho
 by_cases hk : k ∈ live
 ·rw [if_pos hk]
  have hlt := List.idxOf_lt_length_of_mem hk
  rw [if_pos hlt, List.getElem?_eq_getElem hlt]
  simp
 ·rw [if_neg hk, if_neg (by omega), if_pos ⟨by omega, by simpa using hk⟩]
  simp
theorem ZsK {live : List Nat} {M : Nat} (hn : live.Nodup) {j k : Nat} (h : sig live M j = some k) : rho live M k = j := by
 unfold sig at h
 split at h
 ·rename_i hlt
  rw [List.getElem?_eq_getElem hlt] at h
  injection h with h
  subst h
  unfold rho
  rw [if_pos (List.getElem_mem hlt)]
  exact hn.idxOf_getElem j hlt
 ·split at h
  ·rename_i hc
   injection h with h
   subst h
   unfold rho
   rw [if_neg hc.2]
   omega
  ·cases h
theorem Zzw {nt : Nat} {ι0 ι : Ren} {h0 h : AH} {w0 w : World} {T : Tr Value} {a : Act} (hT : TR ι nt [] T a) (hS : Step P ι0 h0 w0 ι h w)
  (live : List Nat) (m M : Nat) (hlen : live.length = m) (hmM : m ≤ M) (hn : live.Nodup) (h3 : ∀ k, ι0 k ≠ none → live[k]? = some k)
  (L : Nat → Option Value) (hL : ∀ t v, t < nt → L t = some v → v = Zb0 (rho live M) 3 ((T.get t).getD undef) ∧ ZaS 3 ((T.get t).getD undef) = true)
  (g : AH) (hg : ∀ j o, g j = some o → ∃ k, live[j]? = some k ∧ match o with
   | .ro O m => h k = some (.ro O m)
   | .cells c t => ∃ c' r, h k = some (.cells c' t) ∧ c'.map (Zb0 (rho live M) 1) = c ++ r ∧ ZS (ZaS 1) c' = true) :
  ∃ gv ι', TR ι' nt [] (tmps nt L gv) a ∧ Step P ι0 h0 w0 ι' g w ∧ (∀ k, m ≤ k → k < M → ι' k = none) ∧ ∀ j b, ι' j = some b → ∃ k, ι k = some b := by
 have s1 := fun k => Z0b (live := live) (M := M) (by omega) k
 have hι : ∀ k b, ι k = some b → (fun j => (sig live M j).bind ι) (rho live M k) = some b := fun k b hk => by
  simp only [s1 k, Option.bind_some, hk]
 have hlive : ∀ j k, live[j]? = some k → sig live M j = some k := fun j k hk => by
  have hlt := (List.getElem?_eq_some_iff.1 hk).1
  unfold sig
  rw [if_pos hlt]
  exact hk
 have back : ∀ j b, (sig live M j).bind ι = some b → ∃ k, sig live M j = some k ∧ ι k = some b := fun j b hj => by
  cases hs : sig live M j with
  | none => rw [hs] at hj; cases hj
  | some k => rw [hs] at hj; exact ⟨k, rfl, hj⟩
 have old : ∀ k, ι0 k ≠ none → sig live M k = some k := fun k hk => hlive k k (h3 k hk)
 have gC : ∀ j, isC (g j) = true → ∃ k, sig live M j = some k ∧ isC (h k) = true := fun j hj => by
  cases hx : g j with
  | none => rw [hx] at hj; cases hj
  | some o =>
   obtain ⟨k, hk, ho⟩ := hg j o hx
   cases o with
   | ro O m1 => rw [hx] at hj; exact ⟨k, hlive j k hk, by rw [show h k = some (.ro O m1) from ho]; exact hj⟩
   | cells c t => obtain ⟨c', r, hc, _⟩ := ho; exact ⟨k, hlive j k hk, by rw [hc]; rfl⟩
 have gS : ∀ j, (g j).isSome → ∃ k, sig live M j = some k ∧ (h k).isSome := fun j hj => by
  cases hx : g j with
  | none => rw [hx] at hj; cases hj
  | some o =>
   obtain ⟨k, hk, ho⟩ := hg j o hx
   cases o with
   | ro O m1 => exact ⟨k, hlive j k hk, by rw [show h k = some (.ro O m1) from ho]; rfl⟩
   | cells c t => obtain ⟨c', r, hc, _⟩ := ho; exact ⟨k, hlive j k hk, by rw [hc]; rfl⟩
 have garb : ∀ t, ∃ u, VR (fun j => (sig live M j).bind ι) u (a.tmps.getD t undef) := fun t => Zyh hι (hT.2.2 t)
 refine ⟨fun t => (garb t).choose, fun j => (sig live M j).bind ι, ⟨hT.1, hT.2.1, fun t => ?_⟩, ⟨fun k b hk => ?_, ⟨fun j c t hj => ?_, fun j O hj => ?_, fun j j' b b' h1 h2 h4 h5 h6 => ?_, fun j b hj => ?_⟩, hS.os, hS.tape, hS.output, hS.size, hS.frame, fun j b h1 h2 => ?_, fun j h1 h2 => ?_, fun j h1 h2 => ?_⟩, fun j h1 h2 => ?_, fun j b hj => (back j b hj).imp fun k h => h.2⟩
 ·rw [ZwB]
  by_cases ht : t < nt
  ·rw [if_pos ht]
   cases hl : L t with
   | none => exact (garb t).choose_spec
   | some v =>
    obtain ⟨e, hd⟩ := hL t v ht hl
    subst e
    exact ZlH hι 3 _ _ (hT.2.2 t) hd
  ·rw [if_neg ht]
   have : a.tmps.getD t undef = undef := by
    have := hT.1
    simp [Array.getD, show ¬ t < a.tmps.size by omega]
   rw [this]
   exact VR.undef'
 ·show (sig live M k).bind ι = some b
  rw [old k (by rw [hk]; simp)]
  exact hS.ext k b hk
 ·obtain ⟨k, hk, c', r, hc, hcr, hd⟩ := hg j _ hj
  obtain ⟨b, C, hb, hB, hC, hQ⟩ := hS.emb.obj k c' t hc
  have hle : c.length ≤ c'.length := by
   have := congrArg List.length hcr
   simp at this
   omega
  refine ⟨b, C, by show (sig live M j).bind ι = some b; rw [hlive j k hk]; exact hb, hB, ⟨Nat.le_trans hle hC.1, fun i x y hx hy => ?_⟩, hQ⟩
  have hx' : (c'.map (Zb0 (rho live M) 1))[i]? = some x := by
   rw [hcr, List.getElem?_append_left (List.getElem?_eq_some_iff.1 hx).1]
   exact hx
  rw [List.getElem?_map] at hx'
  cases hz : c'[i]? with
  | none => rw [hz] at hx'; cases hx'
  | some z =>
   rw [hz] at hx'
   injection hx' with hx'
   subst hx'
   exact ZlH hι 1 z y (hC.2 i z y hz hy) (Za8 hd z (List.mem_of_getElem? hz))
 ·obtain ⟨k, hk, hr⟩ := hg j _ hj
  obtain ⟨b, hb, hB⟩ := hS.emb.ro k O hr
  exact ⟨b, by show (sig live M j).bind ι = some b; rw [hlive j k hk]; exact hb, hB⟩
 ·obtain ⟨k, q1, q2⟩ := gC j h1
  obtain ⟨k', q3, q4⟩ := gS j' h2
  obtain ⟨_, e1, e2⟩ := back j b h4
  rw [q1] at e1; injection e1 with e1; subst e1
  obtain ⟨_, e3, e4⟩ := back j' b' h5
  rw [q3] at e3; injection e3 with e3; subst e3
  have := hS.emb.inj k k' b b' q2 q4 e2 e4 h6
  subst this
  rw [← ZsK hn q1, ← ZsK hn q3]
 ·obtain ⟨k, _, e2⟩ := back j b hj
  exact hS.emb.lt k b e2
 ·obtain ⟨k, e1, e2⟩ := back j b h2
  refine hS.new k b ?_ e2
  cases hk : ι0 k with
  | none => rfl
  | some c =>
   have := ZsK hn (old k (by rw [hk]; simp))
   have e3 := ZsK hn e1
   rw [this] at e3
   subst e3
   rw [h1] at hk; cases hk
 ·obtain ⟨k, e1, e2⟩ := gS j h1
  rw [old j h2] at e1; injection e1 with e1; subst e1
  exact hS.alive j e2 h2
 ·obtain ⟨k, e1, e2⟩ := gC j h1
  rw [old j h2] at e1; injection e1 with e1; subst e1
  exact hS.kind j e2 h2
 ·show (sig live M j).bind ι = none
  unfold sig
  rw [if_neg (by omega), if_neg (by omega)]
  rfl
theorem ZxC {nt : Nat} {ι0 ι : Ren} {h0 h : AH} {w0 w : World} {T : Tr Value} {a : Act} (hT : TR ι nt [] T a) (hS : Step P ι0 h0 w0 ι h w)
  (live : List Nat) (m M : Nat) (hlen : live.length = m) (hmM : m ≤ M) (hn : live.Nodup) (h3 : ∀ k, ι0 k ≠ none → live[k]? = some k)
  (L : Nat → Option Value) (hL : ∀ t v, t < nt → L t = some v → v = Zb0 (rho live M) 3 ((T.get t).getD undef) ∧ ZaS 3 ((T.get t).getD undef) = true)
  (g : AH) (hg : ∀ j o, g j = some o → ∃ k, live[j]? = some k ∧ match o with
   | .ro O m => h k = some (.ro O m)
   | .cells c t => ∃ c' r, h k = some (.cells c' t) ∧ c'.map (Zb0 (rho live M) 1) = c ++ r ∧ ZS (ZaS 1) c' = true) :
  ∃ gv, At P nt (tmps nt L gv) g m M ι0 h0 w0 a w := by
 obtain ⟨gv, ι', a1, a2, a3, _⟩ := Zzw hT hS live m M hlen hmM hn h3 L hL g hg
 exact ⟨gv, ι', a1, a2, a3⟩
theorem ev_wp (F : Fit P ext) {fu nt : Nat} {c : Code} {T T' : Tr Value} {s s' : St} {e : Ex} (h : Zah P ext nt fu c T s = some (e, T', s')) (ho : ∀ p ∈ s'.ob, p.1 = p.2) {ι : Ren} {D : List Deferred} {a : Act} {w : World} (hT : TR ι nt D T a) (he : Emb P ι s.h.get w) (hf : Fresh ι s.n s'.n) :
  c.wp P (Zgw P ι s w nt D e T' s') a w := (ZfD F fu).1 nt c T s e T' s' h ho ι D a w hT he hf
end
end Ev
end Go.Proofs.YtgpekgedjmhmeaaGreat
/- Functions with loops: a run stands ahead of a loop, at a round's end, or at the function's end. -/
namespace Go.Proofs.YtgpekgedjmhmeaaGreat
open Go.RowKit
namespace Ev
inductive Zff where
 | seq (b : Code)
 | blk (id : Nat)
 | scp
 | rnd (i : Nat)
inductive Stop where
 | fin (v : Value) (s : St)
 | head (a : Code) (K : List Zff) (T : Tr Value) (s : St)
 | next (i : Nat) (T : Tr Value) (s : St)
noncomputable section
def Stop.s : Stop → St
 | .fin _ s => s
 | .head _ _ _ s => s
 | .next _ _ s => s
def Zyi (P : Program) (fn : Func) (T : Tr Value) (s : St) : Option Value :=
 match ZbY P T s fn.results.toList with
 | some [v] => some v
 | some vs => some (.tuple vs.toArray)
 | none => none
def ZzI (s : St) : Option Value → Option Stop
 | some v => some (.fin v s)
 | none => none
def evFin (P : Program) (fn : Func) (e : Ex) (T : Tr Value) (s : St) : Option Stop :=
 match e with
 | .exit _ => none
 | .normal => ZzI s (Zyi P fn T s)
 | .ret => ZzI s (Zyi P fn T s)
mutual
def Zvp (P : Program) (ext : FuncId → Option Ext) (fn : Func) (nt : Nat) : Nat → Code → List Zff → Tr Value → St → Option Stop
 | 0, _, _, _, _ => none
 | fu + 1, c, K, T, s => match c with
  | .seq a b => Zvp P ext fn nt fu a (.seq b :: K) T s
  | .scope a => Zvp P ext fn nt fu a (.scp :: K) T s
  | .block id a => Zvp P ext fn nt fu a (.blk id :: K) T s
  | .cond x a b => match opnd T x with
   | .bool t => match t with
    | true => Zvp P ext fn nt fu a K T s
    | false => Zvp P ext fn nt fu b K T s
   | _ => none
  | .loop a => some (.head a K T s)
  | c => match Zah P ext nt fu c T s with
   | some (e, T', s') => ZoG P ext fn nt fu K e T' s'
   | none => none
termination_by structural fu _ _ _ _ => fu
def ZoG (P : Program) (ext : FuncId → Option Ext) (fn : Func) (nt : Nat) : Nat → List Zff → Ex → Tr Value → St → Option Stop
 | 0, _, _, _, _ => none
 | fu + 1, K, e, T, s => match K with
  | [] => evFin P fn e T s
  | .seq b :: K => match e with
   | .normal => Zvp P ext fn nt fu b K T s
   | .exit i => ZoG P ext fn nt fu K (.exit i) T s
   | .ret => ZoG P ext fn nt fu K .ret T s
  | .blk id :: K => match e with
   | .exit i => bif Nat.beq i id then ZoG P ext fn nt fu K .normal T s else ZoG P ext fn nt fu K (.exit i) T s
   | .normal => ZoG P ext fn nt fu K .normal T s
   | .ret => ZoG P ext fn nt fu K .ret T s
  | .scp :: K => ZoG P ext fn nt fu K e T s
  | .rnd i :: K => match e with
   | .normal => some (.next i T s)
   | .exit j => ZoG P ext fn nt fu K (.exit j) T s
   | .ret => ZoG P ext fn nt fu K .ret T s
termination_by structural fu _ _ _ _ => fu
end
end
section
variable {P : Program} {ext : FuncId → Option Ext}
def post (P : Program) (fn : Func) (R : Ending → World → Prop) (Nx : Nat → Act → World → Prop) : List Zff → Exit → Act → World → Prop
 | [] => bodyPost P fn R
 | .seq b :: K => Exit.then (b.wp P (post P fn R Nx K)) (post P fn R Nx K)
 | .blk id :: K => Exit.inBlock id (post P fn R Nx K)
 | .scp :: K => Exit.noGoto (post P fn R Nx K)
 | .rnd i :: K => Exit.then (Nx i) (post P fn R Nx K)
def Zzx (nt m : Nat) (L : Nat → Option Value) (H : Tr AObj) (T : Tr Value) (s : St) (live : List Nat) : Prop :=
 live.length = m ∧ live.Nodup ∧
  (∀ t v, t < nt → L t = some v → v = Zb0 (rho live far) 3 ((T.get t).getD undef) ∧ ZaS 3 ((T.get t).getD undef) = true) ∧
  ∀ j o, H.get j = some o → ∃ k, live[j]? = some k ∧ match o with
   | .ro O m => s.h.get k = some (.ro O m)
   | .cells c t => ∃ c' r, s.h.get k = some (.cells c' t) ∧ c'.map (Zb0 (rho live far) 1) = c ++ r ∧ ZS (ZaS 1) c' = true
def Zn7 (n : Nat) (live : List Nat) : Bool := live.take n == List.range n
theorem ZuW {n : Nat} {live : List Nat} (h : Zn7 n live = true) {k : Nat} (hk : k < n) : live[k]? = some k := by
 have h := beq_iff_eq.1 h
 have : (live.take n)[k]? = some k := by rw [h]; simp [hk]
 rwa [List.getElem?_take_of_lt hk] at this
theorem Zvq {nt m n0 : Nat} {L : Nat → Option Value} {H : Tr AObj} {T : Tr Value} {s : St} {live : List Nat} (hm : m ≤ far) (h : Zzx nt m L H T s live) (hk : Zn7 n0 live = true) {ι0 ι : Ren} (hd : ∀ k, ι0 k ≠ none → k < n0) {h0 : AH} {w0 w : World} {a : Act} (hT : TR ι nt [] T a) (hS : Step P ι0 h0 w0 ι s.h.get w) :
  ∃ gv, At P nt (tmps nt L gv) H.get m far ι0 h0 w0 a w :=
 ZxC hT hS live m far h.1 hm h.2.1 (fun k hk2 => ZuW hk (hd k hk2)) L h.2.2.1 H.get h.2.2.2
end
end Ev
end Go.Proofs.YtgpekgedjmhmeaaGreat
/- What is known of a function, in blocks' numbers of its own; and what that says at a call. -/
namespace Go.Proofs.YtgpekgedjmhmeaaGreat
open Go.RowKit
namespace Ev
noncomputable section
def ZiE : Nat → List AObj → Tr AObj
 | _, [] => .nil
 | i, o :: l => (ZiE (i + 1) l).set i (some o)
theorem ZvL : ∀ (l : List AObj) (i k : Nat), (ZiE i l).get k = if i ≤ k then l[k - i]? else none
 | [], i, k => by
  show (Tr.nil : Tr AObj).get k = _
  rw [Tr.get_nil]
  split <;> simp
 | o :: l, i, k => by
  show ((ZiE (i + 1) l).set i (some o)).get k = _
  rw [Tr.get_set]
  by_cases hk : k = i
  ·subst hk; rw [Zy, if_pos (Nat.le_refl _)]; simp
  ·rw [Zn hk, ZvL l (i + 1) k]
   by_cases h : i + 1 ≤ k
   ·rw [if_pos h, if_pos (by omega)]
    have : k - i = (k - (i + 1)) + 1 := by omega
    rw [this, List.getElem?_cons_succ]
   ·rw [if_neg h, if_neg (by omega)]
end
def lk (l : List AObj) : AH := fun k => l[k]?
def lkO (l : List (Option AObj)) : AH := fun k => (l[k]?).join
theorem Zqk (l : List AObj) : (ZiE 0 l).get = lk l := funext fun k => by rw [ZvL]; simp [lk]
section
variable {P : Program} {ext : FuncId → Option Ext}
def Fin (P : Program) (ι : Ren) (pre : List AObj) (w : World) (v : Value) (post : List (Option AObj)) (e : Ending) (w' : World) : Prop :=
 ∃ v' ι', e = .returned v' ∧ Step P ι (lk pre) w ι' (lkO post) w' ∧ (∀ k, ι' k ≠ none → k < post.length ∨ far ≤ k) ∧ VR ι' v v'
def LSpec (P : Program) (f : FuncId) (A : Array Value) (pre : List AObj) (v : Value) (post : List (Option AObj)) : Prop :=
 ∀ ι w args', (∀ k, ι k ≠ none → k < pre.length) → VRs ι A args' → Emb P ι (lk pre) w → Calls P f args' w (Fin P ι pre w v post)
def Zyj (n0 : Nat) (v : Value) (post : List (Option AObj)) (u : Value) (s : St) (live : List Nat) : Prop :=
 live.length = post.length ∧ live.Nodup ∧ Zn7 n0 live = true ∧ (v = Zb0 (rho live far) 3 u ∧ ZaS 3 u = true) ∧
  ∀ j o, lkO post j = some o → ∃ k, live[j]? = some k ∧ match o with
   | .ro O m => s.h.get k = some (.ro O m)
   | .cells c t => ∃ c' r, s.h.get k = some (.cells c' t) ∧ c'.map (Zb0 (rho live far) 1) = c ++ r ∧ ZS (ZaS 1) c' = true
theorem ZyJ {ι0 ι : Ren} {pre : List AObj} {w0 w : World} {u v v' : Value} {post : List (Option AObj)} {s : St} {live : List Nat} (hle : post.length ≤ far) (hd : ∀ k, ι0 k ≠ none → k < pre.length) (h : Zyj pre.length v post u s live) (hS : Step P ι0 (lk pre) w0 ι s.h.get w) (hv : VR ι u v') : Fin P ι0 pre w0 v post (.returned v') w := by
 obtain ⟨h1, h2, h3, h4, h5⟩ := h
 have hT : TR ι 1 [] ((Tr.nil : Tr Value).set 0 (some u)) { tmps := #[v'], defers := [] } := ⟨rfl, rfl, fun t => by
  rw [Tr.get_set]
  by_cases ht : t = 0
  ·subst ht; rw [Zy]; exact hv
  ·rw [Zn ht, Tr.get_nil]
   have : (#[v'] : Array Value).getD t undef = undef := by simp [Array.getD, show ¬ t < 1 by omega]
   rw [this]
   exact VR.undef'⟩
 obtain ⟨gv, ι', hT', hS', hfr⟩ := ZxC hT hS live post.length far h1 hle h2 (fun k hk => ZuW h3 (hd k hk)) (fun _ => some v) (fun t x ht hx => by
  injection hx with hx
  subst hx
  obtain rfl : t = 0 := by omega
  rw [Tr.get_set, Zy]
  exact h4) (lkO post) h5
 refine ⟨v', ι', rfl, hS', fun k hk => ?_, ?_⟩
 ·rcases Nat.lt_or_ge k post.length with h | h
  ·exact .inl h
  ·rcases Nat.lt_or_ge k far with h' | h'
   ·exact absurd (hfr k h h') hk
   ·exact .inr h'
 ·have := hT'.2.2 0
  rw [ZwB, if_pos (by omega)] at this
  exact this
/-! ### At a call -/
def ZcZ (m : Nat) : Nat → Value → Bool
 | d + 1, .agg cs => ZS (ZcZ m d) cs.toList
 | d + 1, .tuple cs => ZS (ZcZ m d) cs.toList
 | _, .pointer (some ⟨k, _, none⟩) => Nat.blt k m
 | _, .slice (some ⟨k, _, none⟩) _ _ => Nat.blt k m
 | _, .map (some k) => Nat.blt k m
 | _, v => atom v
theorem Zl9 {ι ι2 : Ren} {ρ : Nat → Nat} {m : Nat} (hι : ∀ k b, k < m → ι k = some b → ι2 (ρ k) = some b) : ∀ (d : Nat) (v v' : Value), VR ι v v' → ZcZ m d v = true → VR ι2 (Zb0 ρ d v) v'
 | d, v, v', h, hd => by
  cases h with
  | atom h => rw [Zn6 d h]; exact .atom h
  | glob h => cases d <;> simp [ZcZ, Ev.atom] at hd
  | ptr h => cases d <;> exact .ptr (hι _ _ (Nat.le_of_ble_eq_true hd) h)
  | map h => cases d <;> exact .map (hι _ _ (Nat.le_of_ble_eq_true hd) h)
  | slice h hn hc hq => cases d <;> exact .slice (hι _ _ (Nat.le_of_ble_eq_true hd) h) hn hc hq
  | slice0 h => cases d <;> exact .slice0 h
  | func hs ht h1 h2 =>
   rename_i fn a a' b b'
   have ha : atom (.func fn a b) = true := by cases d <;> exact hd
   have e := VR.eq_of_atom ha (.func hs ht h1 h2)
   rw [e, Zn6 d ha]
   exact .atom ha
  | agg hs h1 =>
   cases d with
   | zero => simp [ZcZ, Ev.atom] at hd
   | succ d =>
    simp only [ZcZ] at hd
    obtain ⟨q1, q2⟩ := ZlG (f := Zb0 ρ d) hs fun i x y hx hy => Zl9 hι d x y (h1 i x y hx hy) (ZbZ hd i x hx)
    exact .agg q1 q2
  | tuple hs h1 =>
   cases d with
   | zero => simp [ZcZ, Ev.atom] at hd
   | succ d =>
    simp only [ZcZ] at hd
    obtain ⟨q1, q2⟩ := ZlG (f := Zb0 ρ d) hs fun i x y hx hy => Zl9 hι d x y (h1 i x y hx hy) (ZbZ hd i x hx)
    exact .tuple q1 q2
theorem ZtM {ι ι2 : Ren} {f : Value → Value} {a a' : Array Value} (h : VRs ι (ZiD f a) a') (g : ∀ (i : Nat) x y, a[i]? = some x → VR ι (f x) y → VR ι2 x y) : VRs ι2 a a' := by
 rw [ZxB] at h
 refine ⟨by simpa using h.1, fun i x y hx hy => g i x y hx (h.2 i _ y (by rw [Array.getElem?_map, hx]; rfl) hy)⟩
theorem VR.agg_of {ι : Ren} {a : Array Value} {v' : Value} (h : VR ι (.agg a) v') : ∃ a', v' = .agg a' ∧ VRs ι a a' := by
 cases h with
 | atom h => simp [Ev.atom] at h
 | agg hs h1 => exact ⟨_, rfl, hs, h1⟩
theorem VR.tuple_of {ι : Ren} {a : Array Value} {v' : Value} (h : VR ι (.tuple a) v') : ∃ a', v' = .tuple a' ∧ VRs ι a a' := by
 cases h with
 | atom h => simp [Ev.atom] at h
 | tuple hs h1 => exact ⟨_, rfl, hs, h1⟩
theorem Zwe {ι ι2 : Ren} {ρ : Nat → Nat} {m : Nat} (hι : ∀ k b, k < m → ι (ρ k) = some b → ι2 k = some b) : ∀ (d : Nat) (v v' : Value), VR ι (Zb0 ρ d v) v' → ZcZ m d v = true → VR ι2 v v'
 | d, v, v', h, hd => by
  have at_ : atom v = true → VR ι2 v v' := fun ha => by
   rw [Zn6 d ha] at h
   rw [h.eq_of_atom ha]
   exact .atom ha
  cases v with
  | pointer a =>
   cases a with
   | none => exact at_ rfl
   | some a =>
    obtain ⟨k, o, sp⟩ := a
    cases sp with
    | some sp => cases d <;> simp [ZcZ, Ev.atom] at hd
    | none =>
     have hk : k < m := by cases d <;> exact Nat.le_of_ble_eq_true hd
     have h' : VR ι (.pointer (some ⟨ρ k, o, none⟩)) v' := by cases d <;> exact h
     cases h' with
     | atom q => simp [Ev.atom] at q
     | ptr q => exact .ptr (hι k _ hk q)
  | slice a n c =>
   cases a with
   | none =>
    have ha : atom (.slice none n c) = true := by cases d <;> exact hd
    exact at_ ha
   | some a =>
    obtain ⟨k, o, sp⟩ := a
    cases sp with
    | some sp => cases d <;> simp [ZcZ, Ev.atom] at hd
    | none =>
     have hk : k < m := by cases d <;> exact Nat.le_of_ble_eq_true hd
     have h' : VR ι (.slice (some ⟨ρ k, o, none⟩) n c) v' := by cases d <;> exact h
     cases h' with
     | atom q => simp [Ev.atom] at q
     | slice q hn hc hq => exact .slice (hι k _ hk q) hn hc hq
     | slice0 h0 => exact .slice0 h0
  | map a =>
   cases a with
   | none =>
    have ha : atom (.map none) = true := rfl
    exact at_ ha
   | some k =>
    have hk : k < m := by cases d <;> exact Nat.le_of_ble_eq_true hd
    have h' : VR ι (.map (some (ρ k))) v' := by cases d <;> exact h
    cases h' with
    | atom q => simp [Ev.atom] at q
    | map q => exact .map (hι k _ hk q)
  | agg cs =>
   cases d with
   | zero => simp [ZcZ, Ev.atom] at hd
   | succ d =>
    simp only [ZcZ] at hd
    obtain ⟨a', rfl, ha⟩ := VR.agg_of (a := ZiD (Zb0 ρ d) cs) h
    have := ZtM ha fun i x y hx hv => Zwe hι d x y hv (ZbZ hd i x hx)
    exact .agg this.1 this.2
  | tuple cs =>
   cases d with
   | zero => simp [ZcZ, Ev.atom] at hd
   | succ d =>
    simp only [ZcZ] at hd
    obtain ⟨a', rfl, ha⟩ := VR.tuple_of (a := ZiD (Zb0 ρ d) cs) h
    have := ZtM ha fun i x y hx hv => Zwe hι d x y hv (ZbZ hd i x hx)
    exact .tuple this.1 this.2
  | _ => exact at_ (by cases d <;> exact hd)
def kap (κ : List Nat) (n j : Nat) : Nat := match κ[j]? with | some k => k | none => n + (j - κ.length)
theorem ZuX {κ : List Nat} {n j : Nat} (h : j < κ.length) : κ[j]? = some (kap κ n j) := by
 unfold kap
 rw [List.getElem?_eq_getElem h]
theorem ZyK {κ : List Nat} {n j : Nat} (h : κ.length ≤ j) : kap κ n j = n + (j - κ.length) := by
 unfold kap
 rw [List.getElem?_eq_none h]
def Zql (ρ : Nat → Nat) : AObj → AObj
 | .cells c t => .cells (c.map (Zb0 ρ 1)) t
 | .ro O m => .ro O m
def Zp2 (m : Nat) : AObj → Bool
 | .cells c _ => ZS (ZcZ m 1) c
 | .ro _ _ => true
theorem ZlI {ρ : Nat → Nat} {o : AObj} : isC (some (Zql ρ o)) = isC (some o) := by cases o <;> rfl
theorem LSpec.call {f : FuncId} {A : Array Value} {pre : List AObj} {v : Value} {post : List (Option AObj)} (h : LSpec P f A pre v post) (κ : List Nat) (n : Nat) (hκ : κ.length = pre.length) (hnd : κ.Nodup) (hlt : ∀ k ∈ κ, k < n) (hle : pre.length ≤ post.length)
  (hA : ZS (ZcZ pre.length 3) A.toList = true) (hpre : ∀ o ∈ pre, Zp2 pre.length o = true) (hv : ZcZ post.length 3 v = true) (hpost : ∀ o, some o ∈ post → Zp2 post.length o = true)
  {A' : Array Value} {pre' : List (Nat × AObj)} {v' : Value} {post' : List (Nat × Option AObj)} {dn : Nat} (eA : A' = ZiD (Zb0 (kap κ n) 3) A) (ev : v' = Zb0 (kap κ n) 3 v) (edn : pre.length + dn = post.length)
  (e1 : ∀ j o, pre[j]? = some o → ZaI (kap κ n j) pre' = some (Zql (kap κ n) o)) (e2 : ∀ k o, ZaI k pre' = some o → ∃ j, j < pre.length ∧ k = kap κ n j)
  (e3 : ∀ j, j < post.length → behind pre' post' (kap κ n j) = (lkO post j).map (Zql (kap κ n))) (e4 : ∀ k o, behind pre' post' k = some o → ∃ j, j < post.length ∧ k = kap κ n j) : Zj P f A' pre' v' post' n dn := by
 intro ι w args' ha he hf
 subst eA ev
 have kl : ∀ j, j < pre.length → kap κ n j ∈ κ := fun j hj => List.mem_of_getElem? (ZuX (n := n) (by omega : j < κ.length))
 have kn : ∀ j, j < pre.length → kap κ n j < n := fun j hj => hlt _ (kl j hj)
 have kg : ∀ j, pre.length ≤ j → kap κ n j = n + (j - pre.length) := fun j hj => by rw [← hκ]; exact ZyK (by omega)
 have kinj : ∀ i j, kap κ n i = kap κ n j → i = j := fun i j hij => by
  rcases Nat.lt_or_ge i pre.length with h1 | h1 <;> rcases Nat.lt_or_ge j pre.length with h2 | h2
  ·have a := ZuX (n := n) (by omega : i < κ.length)
   have b := ZuX (n := n) (by omega : j < κ.length)
   rw [hij, ← b] at a
   exact (List.getElem?_inj (by omega) hnd).1 a
  ·have := kn i h1; rw [hij, kg j h2] at this; omega
  ·have := kn j h2; rw [← hij, kg i h1] at this; omega
  ·rw [kg i h1, kg j h2] at hij; omega
 let ιl : Ren := fun j => if j < pre.length then ι (kap κ n j) else none
 have hιl : ∀ j, j < pre.length → ιl j = ι (kap κ n j) := fun j hj => by simp [ιl, hj]
 have hl : ∀ k b, k < pre.length → ι (kap κ n k) = some b → ιl k = some b := fun k b hk hb => by rw [hιl k hk]; exact hb
 have hargs : VRs ιl A args' := ZtM ha fun i x y hx hv => Zwe hl 3 x y hv (ZbZ hA i x hx)
 have cr : ∀ {c : List Value} {C : Array Value}, ZS (ZcZ pre.length 1) c = true → CR ι (c.map (Zb0 (kap κ n) 1)) C → CR ιl c C := fun {c C} hu hc => ⟨by simpa using hc.1, fun i x y hx hy => Zwe hl 1 x y (hc.2 i _ y (by rw [List.getElem?_map, hx]; rfl) hy) (Za8 hu x (List.mem_of_getElem? hx))⟩
 have hemb : Emb P ιl (lk pre) w := by
  refine ⟨fun j c t hj => ?_, fun j O hj => ?_, fun j j' b b' h1 h2 h3 h4 h5 => ?_, fun j b hj => ?_⟩
  ·have hlt' : j < pre.length := (List.getElem?_eq_some_iff.1 hj).1
   obtain ⟨b, C, q1, q2, q3, q4⟩ := he.obj _ _ t (e1 j _ hj)
   exact ⟨b, C, by rw [hιl j hlt']; exact q1, q2, cr (hpre _ (List.mem_of_getElem? hj)) q3, q4⟩
  ·have hlt' : j < pre.length := (List.getElem?_eq_some_iff.1 hj).1
   obtain ⟨b, q1, q2⟩ := he.ro _ _ (e1 j _ hj)
   exact ⟨b, by rw [hιl j hlt']; exact q1, q2⟩
  ·obtain ⟨o, ho⟩ := Option.isSome_iff_exists.1 (ZdP h1)
   obtain ⟨o', ho'⟩ := Option.isSome_iff_exists.1 h2
   have l1 : j < pre.length := (List.getElem?_eq_some_iff.1 ho).1
   have l2 : j' < pre.length := (List.getElem?_eq_some_iff.1 ho').1
   rw [hιl j l1] at h3
   rw [hιl j' l2] at h4
   have c1 : isC (ZaI (kap κ n j) pre') = true := by rw [e1 j o ho, ZlI, ← ho]; exact h1
   exact kinj j j' (he.inj _ _ b b' c1 (by rw [e1 j' o' ho']; rfl) h3 h4 h5)
  ·by_cases hj' : j < pre.length
   ·rw [hιl j hj'] at hj; exact he.lt _ b hj
   ·simp [ιl, hj'] at hj
 refine (h ιl w args' (fun k hk => by by_cases h : k < pre.length; exact h; simp [ιl, h] at hk) hargs hemb).mono ?_
 rintro e w' ⟨v', ι2, rfl, hS, hdom, hvr⟩
 have live : ∀ j, j < pre.length → ∃ b, ιl j = some b := fun j hj => hemb.live (k := j) (by simp [lk, hj])
 let ι' : Ren := fun k => match ι k with | some b => some b | none => if n ≤ k ∧ k < n + dn then ι2 (k - n + pre.length) else none
 have hold : ∀ k b, ι k = some b → ι' k = some b := fun k b hk => by simp [ι', hk]
 have hnew : ∀ k b, k < post.length → ι2 k = some b → ι' (kap κ n k) = some b := fun k b hk hb => by
  rcases Nat.lt_or_ge k pre.length with h1 | h1
  ·obtain ⟨c, hc⟩ := live k h1
   have := hS.ext k c hc
   rw [hb] at this
   injection this with this
   subst this
   rw [hιl k h1] at hc
   exact hold _ _ hc
  ·have e := kg k h1
   have hn : ι (kap κ n k) = none := hf.2 _ (by omega) (by omega)
   have : ι' (kap κ n k) = ι2 (kap κ n k - n + pre.length) := by simp only [ι', hn]; rw [if_pos ⟨by omega, by omega⟩]
   rw [this, e, show n + (k - pre.length) - n + pre.length = k by omega]
   exact hb
 have hback : ∀ k b, k < post.length → ι' (kap κ n k) = some b → ι2 k = some b := fun k b hk hb => by
  rcases Nat.lt_or_ge k pre.length with h1 | h1
  ·obtain ⟨c, hc⟩ := live k h1
   have q := hS.ext k c hc
   rw [hιl k h1] at hc
   rw [hold _ _ hc] at hb
   rw [q]; exact hb
  ·have e := kg k h1
   have hn : ι (kap κ n k) = none := hf.2 _ (by omega) (by omega)
   have : ι' (kap κ n k) = ι2 (kap κ n k - n + pre.length) := by simp only [ι', hn]; rw [if_pos ⟨by omega, by omega⟩]
   rw [this, e, show n + (k - pre.length) - n + pre.length = k by omega] at hb
   exact hb
 have inv : ∀ k o, behind pre' post' k = some o → ∃ j o0, j < post.length ∧ k = kap κ n j ∧ lkO post j = some o0 ∧ o = Zql (kap κ n) o0 := fun k o hk => by
  obtain ⟨j, hj, rfl⟩ := e4 k o hk
  rw [e3 j hj] at hk
  cases hp : lkO post j with
  | none => rw [hp] at hk; cases hk
  | some o0 => rw [hp] at hk; injection hk with hk; exact ⟨j, o0, hj, rfl, hp, hk.symm⟩
 have mem : ∀ {j o}, lkO post j = some o → some o ∈ post := fun {j o} hj => by
  unfold lkO at hj
  cases hp : post[j]? with
  | none => rw [hp] at hj; cases hj
  | some x => rw [hp] at hj; exact (show x = some o from hj) ▸ List.mem_of_getElem? hp
 refine ⟨v', ι', rfl, ⟨hold, ⟨fun k c t hk => ?_, fun k O hk => ?_, fun k k' b b' h1 h2 h3 h4 h5 => ?_, fun k b hk => ?_⟩, hS.os, hS.tape, hS.output, hS.size, fun b hb hno => hS.frame b hb fun j c hj hc => ?_, fun k b h1 h2 => ?_, fun k h1 h2 => ?_, fun k h1 h2 => ?_⟩, fun k hk => ?_, Zl9 hnew 3 v v' hvr hv⟩
 ·obtain ⟨j, o0, hj, rfl, hp, ho⟩ := inv k _ hk
  cases o0 with
  | ro O => cases ho
  | cells c0 t0 =>
   injection ho with q1 q2
   subst q1 q2
   obtain ⟨b, C, q1, q2, q3, q4⟩ := hS.emb.obj j c0 _ hp
   have hu : ZS (ZcZ post.length 1) c0 = true := hpost _ (mem hp)
   refine ⟨b, C, hnew j b hj q1, q2, ⟨by simpa using q3.1, fun i x y hx hy => ?_⟩, q4⟩
   rw [List.getElem?_map] at hx
   cases hz : c0[i]? with
   | none => rw [hz] at hx; cases hx
   | some z =>
    rw [hz] at hx
    injection hx with hx
    subst hx
    exact Zl9 hnew 1 z y (q3.2 i z y hz hy) (Za8 hu z (List.mem_of_getElem? hz))
 ·obtain ⟨j, o0, hj, rfl, hp, ho⟩ := inv k _ hk
  cases o0 with
  | cells c0 t0 => cases ho
  | ro O' m1 =>
   injection ho with q1 q2
   subst q1 q2
   obtain ⟨b, q1, q2⟩ := hS.emb.ro j _ hp
   exact ⟨b, hnew j b hj q1, q2⟩
 ·obtain ⟨o, ho⟩ := Option.isSome_iff_exists.1 (ZdP h1)
  obtain ⟨o', ho'⟩ := Option.isSome_iff_exists.1 h2
  obtain ⟨j, o0, hj, rfl, hp, rfl⟩ := inv k _ ho
  obtain ⟨j', o0', hj', rfl, hp', rfl⟩ := inv k' _ ho'
  rw [ho, ZlI] at h1
  rw [hS.emb.inj j j' b b' (by rw [hp]; exact h1) (by rw [hp']; rfl) (hback j b hj h3) (hback j' b' hj' h4) h5]
 ·cases hi : ι k with
  | some c =>
   have := hold k c hi
   rw [hk] at this; injection this with this; subst this
   exact Nat.lt_of_lt_of_le (he.lt k b hi) hS.size
  | none =>
   simp only [ι', hi] at hk
   split at hk
   ·exact hS.emb.lt _ b hk
   ·cases hk
 ·obtain ⟨o, ho⟩ := Option.isSome_iff_exists.1 (ZdP hj)
  have l1 : j < pre.length := (List.getElem?_eq_some_iff.1 ho).1
  rw [hιl j l1] at hc
  exact hno (kap κ n j) c (by rw [e1 j o ho, ZlI, ← ho]; exact hj) hc
 ·simp only [ι', h1] at h2
  split at h2
  ·rename_i hr
   have hnone : ιl (k - n + pre.length) = none := by simp only [ιl]; rw [if_neg (by omega)]
   rcases hS.new _ b hnone h2 with h | ⟨j, c, hj, hc, he2⟩
   ·exact .inl h
   ·obtain ⟨o, ho⟩ := Option.isSome_iff_exists.1 (ZdP hj)
    have l1 : j < pre.length := (List.getElem?_eq_some_iff.1 ho).1
    rw [hιl j l1] at hc
    exact .inr ⟨kap κ n j, c, by rw [e1 j o ho, ZlI, ← ho]; exact hj, hc, he2⟩
  ·cases h2
 ·obtain ⟨o, ho⟩ := Option.isSome_iff_exists.1 h1
  obtain ⟨j, o0, hj, rfl, hp, rfl⟩ := inv k _ ho
  rcases Nat.lt_or_ge j pre.length with l1 | l1
  ·have : (lk pre j).isSome := by simp [lk, l1]
   obtain ⟨o1, ho1⟩ := Option.isSome_iff_exists.1 this
   rw [e1 j o1 ho1]; rfl
  ·exact absurd (hf.2 _ (by rw [kg j l1]; omega) (by rw [kg j l1]; omega)) h2
 ·obtain ⟨o, ho⟩ := Option.isSome_iff_exists.1 (ZdP h1)
  obtain ⟨j, o0, hj, rfl, hp, rfl⟩ := inv k _ ho
  rcases Nat.lt_or_ge j pre.length with l1 | l1
  ·obtain ⟨c, hc⟩ := live j l1
   rw [ho, ZlI] at h1
   have q := hS.kind j (by rw [hp]; exact h1) (by rw [hc]; simp)
   obtain ⟨o1, ho1⟩ := Option.isSome_iff_exists.1 (ZdP q)
   rw [e1 j o1 ho1, ZlI, ← ho1]
   exact q
  ·exact absurd (hf.2 _ (by rw [kg j l1]; omega) (by rw [kg j l1]; omega)) h2
 ·cases hi : ι k with
  | some c => exact .inl (by simp)
  | none =>
   simp only [ι', hi] at hk
   split at hk
   ·rename_i hr; exact .inr (.inl hr)
   ·exact absurd rfl hk
end
end Ev
end Go.Proofs.YtgpekgedjmhmeaaGreat
/- Tools of my own, over any program: contracts that hand back one value and leave what was there alone, and regions walked once in the class of worlds that are alike below a block. -/
namespace Go.Proofs.YtgpekgedjmhmeaaGreat
open Go.ChangeShapes Go.WideShapes Go.ChangeAt Go.RowKit

def Ret (v : Value) (w : World) (e : Ending) (w' : World) : Prop := e = .returned v ∧ Below w.heap.size w w'

def Cl (w : World) : Type := { w' : World // Below w.heap.size w w' }
def Cl.w {w : World} (x : Cl w) : World := x.1
theorem Cl.below {w : World} (x : Cl w) : Below w.heap.size w x.w := x.2
def Cl.start (w : World) : Cl w := ⟨w, Below.refl _ _⟩
instance (w : World) : Nonempty (Cl w) := ⟨Cl.start w⟩
theorem Cl.size {w : World} (x : Cl w) : w.heap.size ≤ x.w.heap.size := x.below.size
theorem Cl.cell {w : World} (x : Cl w) {b o : Nat} {v : Value} (hb : b < w.heap.size) (h : w.cell? ⟨b, o, none⟩ = some v) : x.w.cell? ⟨b, o, none⟩ = some v :=
 (x.below.cell (p := ⟨b, o, none⟩) hb).trans h
theorem Cl.frozen {w : World} (x : Cl w) {b o : Nat} {v : Bool} (hb : b < w.heap.size) (h : w.frozen? ⟨b, o, none⟩ = v) : x.w.frozen? ⟨b, o, none⟩ = v :=
 (x.below.frozen (p := ⟨b, o, none⟩) hb).trans h
theorem Cl.all {w : World} (_ : Cl w) (b o : Nat) (v : Value) (hb : b < w.heap.size) (h : w.cell? ⟨b, o, none⟩ = some v) : ∀ y : Cl w, y.w.cell? ⟨b, o, none⟩ = some v := fun y => y.cell hb h
theorem Cl.lt {w : World} (x : Cl w) {b : Nat} (h : b < w.heap.size) : b < x.w.heap.size := Nat.lt_of_lt_of_le h x.size
def Cl.on {w : World} (x : Cl w) {w' : World} (h : Below x.w.heap.size x.w w') : Cl w := ⟨w', x.below.trans (h.mono x.size)⟩
theorem Ret.next {w : World} {x : Cl w} {v : Value} {e : Ending} {w' : World} (h : Ret v x.w e w') : e = .returned v ∧ ∃ y : Cl w, w' = y.w :=
 ⟨h.1, x.on h.2, rfl⟩

theorem Ret.end {w W : World} {x : Cl W} {v : Value} (h : Below w.heap.size w W) : Ret v w (.returned v) x.w :=
 ⟨rfl, h.trans (x.below.mono h.size)⟩
theorem Ret.same {w : World} {v : Value} : Ret v w (.returned v) w := ⟨rfl, Below.refl _ _⟩
theorem Ret.alloc {w : World} {v : Value} (o : Obj) : Ret v w (.returned v) (w.alloc o) := ⟨rfl, (Below.refl _ _).alloc (Nat.le_refl _) _⟩

/-! ### Blocks that are known -/
def Has (W : World) (b : Nat) (cs : List Value) : Prop := b < W.heap.size ∧ ∀ i v, cs[i]? = some v → W.cell? ⟨b, i, none⟩ = some v ∧ W.frozen? ⟨b, i, none⟩ = false
section
variable {W : World} {b : Nat} {cs : List Value}
theorem Has.lt (h : Has W b cs) : b < W.heap.size := h.1
theorem Has.new (W : World) (cs : List Value) (t : TypeId) : Has (W.alloc (.cells cs.toArray t)) W.heap.size cs := by
 refine ⟨by simp, fun i v hi => ?_⟩
 have e : (W.alloc (.cells cs.toArray t)).heap[W.heap.size]? = some (.cells cs.toArray t (0, 0)) := heap_alloc_new W _
 refine ⟨?_, by simp only [World.frozen?, e]; simp⟩
 have := cell_of_row (W.alloc (.cells cs.toArray t)) W.heap.size i cs.toArray t (0, 0) e
 rw [this]; simpa using hi
theorem Has.below {W' : World} (h : Has W b cs) (hb : Below W.heap.size W W') : Has W' b cs :=
 ⟨Nat.lt_of_lt_of_le h.1 hb.size, fun i v hi => ⟨(hb.cell (p := ⟨b, i, none⟩) h.1).trans (h.2 i v hi).1, (hb.frozen (p := ⟨b, i, none⟩) h.1).trans (h.2 i v hi).2⟩⟩
theorem Has.ext (h : Has W b cs) (y : Cl W) : Has y.w b cs := h.below y.below
theorem Has.alloc (h : Has W b cs) (o : Obj) : Has (W.alloc o) b cs := h.below ((Below.refl _ _).alloc (Nat.le_refl _) _)
theorem Has.far (h : Has W b cs) {p : Addr} (hp : p.block ≠ b) (u : Value) : Has (W.setCell p u) b cs := by
 refine ⟨by simpa [World.setCell] using h.1, fun i v hi => ?_⟩
 have hb : (W.setCell p u).heap[b]? = W.heap[b]? := Below.heap_setCell W p u b (fun e => hp e.symm)
 exact ⟨(World.cell?_of_block (a := ⟨b, i, none⟩) hb).trans (h.2 i v hi).1, (World.frozen?_of_block (a := ⟨b, i, none⟩) hb).trans (h.2 i v hi).2⟩
theorem Has.at_ (h : Has W b cs) (i : Nat) (v : Value) (hi : cs[i]? = some v) : ∀ y : Cl W, y.w.cell? ⟨b, i, none⟩ = some v := fun y => ((h.ext y).2 i v hi).1
theorem Has.fr (h : Has W b cs) (i : Nat) (v : Value) (hi : cs[i]? = some v) : ∀ y : Cl W, y.w.frozen? ⟨b, i, none⟩ = false := fun y => ((h.ext y).2 i v hi).2
theorem Has.here (h : Has W b cs) (i : Nat) (v : Value) (hi : cs[i]? = some v) : W.cell? ⟨b, i, none⟩ = some v := (h.2 i v hi).1
end
theorem Cl.out {w W : World} (x : Cl W) (h : Below w.heap.size w W) : Below w.heap.size w x.w := h.trans (x.below.mono h.size)
theorem Ret.of {w T : World} {v : Value} (h : Below w.heap.size w T) : Ret v w (.returned v) T := ⟨rfl, h⟩
end Go.Proofs.YtgpekgedjmhmeaaGreat
/- The frame of every law, over any program: from 'called with whatever can be read, it hands back true and leaves what was there alone' to the row's own step. And how arguments are opened. -/
namespace Go.Proofs.YtgpekgedjmhmeaaGreat
open Go.ChangeShapes Go.WideShapes Go.ChangeAt Go.RowKit

section
variable {H : Type} {enc : TypeId × Value → H} {P : Program}

theorem Zsf (hl : laidOutB P = true) {W W' : World} (hb : Below W.heap.size W W') : ∀ {ts : List TypeId} {vs : List Value} {ds : List (DataW H)} {ps : List MemPlace},
  (ts.all fun t => P.readableRec t && decide (t < P.types.size)) = true → DataW.TrodAll enc P W 0 (fun _ => true) true ts vs ds ps → (∀ x ∈ ps, x.block < W.heap.size) →
  DataW.TrodAll enc P W' 0 (fun b => decide (b < W.heap.size)) true ts vs ds ps
 | [], vs, ds, ps, _, h, _ => by
  obtain ⟨rfl, rfl, rfl⟩ := trodAll_nil h
  exact trodAll_mk0
 | t :: ts, vs, ds, ps, ha, h, hlt => by
  obtain ⟨v, vs', d, ds', p, q, rfl, rfl, rfl, h0, r0⟩ := trodAll_cons h
  simp only [List.all_cons, Bool.and_eq_true, decide_eq_true_eq] at ha
  exact trodAll_cons_mk (Below.trod hl ha.1.1 ha.1.2 h0 hb fun x hx => hlt x (List.mem_append_left _ hx))
   (Zsf hl hb (by simpa using ha.2) r0 fun x hx => hlt x (List.mem_append_right _ hx))

theorem ZyL {C : Checked} {os : Os} {F : FuncId} {fn : Func} {s : ChangeSpec} {tb : TypeId}
  (own : ownKnob C.prog.godebug = none) (started : os.Started) (noInit : C.prog.inits.idxOf? F = none) (hfn : C.prog.funcs[F]? = some fn)
  (hv : s.vars = []) (hrt : fn.resultTypes = #[tb]) (hub : C.prog.underlying tb = some .bool)
  (hspec : ∀ ds : List (DataW H), ds.length = fn.params.size → s.fn H ds = { results := [.lit (.bool true)], args := ds })
  (hl : laidOutB C.prog = true) (hr : (fn.params.toList.all fun t => C.prog.readableRec t && decide (t < C.prog.types.size)) = true)
  (witness : ∃ (w : World) (tape : Tape) (i : Input), w.os = os ∧ (w.forCall tape i).Shaped C.prog ∧ i.vars = [] ∧ Input.okWide C.prog (w.forCall tape i) .any w.heap.size F i ∧
   s.pre6 enc C.prog fn [] false (w.forCall tape i).memory i.args ∧ ({} : Assume).holds C.prog (lone (Frame.enter C.prog F i.args .normal) [] (w.forCall tape i)))
  (walk : ∀ (W : World) (base : Nat) (args : Array Value) (ds : List (DataW H)) (p : List MemPlace),
   (∀ (j : Nat) t v, fn.params[j]? = some t → args[j]? = some v → Value.okWide C.prog W .any base t v) →
   DataW.TrodAll enc C.prog W 0 (fun _ => true) true fn.params.toList args.toList ds p → (∀ x ∈ p, x.block < W.heap.size) →
   (DataW.weightsEach C.prog fn.params.toList ds).all (· ≤ reachBytes) = true →
   Calls C.prog F args W (Ret (.bool true) W)) :
  ReturnsInHanded {} C os F .any (s.pre6 enc C.prog fn [] false) (s.post enc C.prog fn false true false false) := by
 refine returnsInHanded_of_change_sized own started noInit hfn witness ?_
 intro W base args ds gs before hval hW _ hsz _
 have hlt : ∀ x ∈ before, x.block < W.heap.size := fun x hx => hW.lt x hx
 obtain ⟨p, q, hA, hV, hps, hfz, hnd⟩ := id hW
 rw [hv] at hV
 obtain ⟨rfl, rfl⟩ := trodVars_none hV
 rw [List.append_nil] at hps
 subst hps
 have hvt : s.plain.varTypes C.prog = [] := by simp [ChangeSpec.plain, DataSpec.varTypes, hv]
 rw [hvt, List.append_nil, List.append_nil] at hsz
 refine (walk W base args ds before hval hA hlt hsz).mono fun e W' ⟨he, hb⟩ => ⟨_, he, ?_⟩
 have hlen : ds.length = fn.params.size := by
  have : ∀ {ts : List TypeId} {vs : List Value} {ds : List (DataW H)} {ps : List MemPlace}, DataW.TrodAll enc C.prog W 0 (fun _ => true) true ts vs ds ps → ds.length = ts.length := by
   intro ts
   induction ts with
   | nil => intro vs ds ps h; obtain ⟨_, rfl, _⟩ := trodAll_nil h; rfl
   | cons t ts ih => intro vs ds ps h; obtain ⟨_, _, _, _, _, _, _, rfl, _, _, r⟩ := trodAll_cons h; simp [ih r]
  simpa using this hA
 have hs := hspec (ds ++ []) (by simpa using hlen)
 refine ⟨ds, [], before, [], before, [], by simpa [hv] using hW, ?_, ?_, ?_, World.keptBut_mono (fun x hx => ⟨hx, .inr (.inl hx)⟩) (hb.frame (· ∈ before)), fun h => by cases h⟩
 ·rw [hs, hrt]
  exact trodAll_mk1 (shut_bool hub true)
 ·rw [hs]
  simpa using Zsf hl hb hr hA hlt
 ·rw [hs, hv]
  rfl
end
end Go.Proofs.YtgpekgedjmhmeaaGreat
/- A round's frame: what the runner says of code holds there too. -/
namespace Go.Proofs.YtgpekgedjmhmeaaGreat
open Go.RowKit
namespace Ev
def ZlX (o : Oper) : Bool := match o.op with | .defer _ => false | _ => true
def ZfE : Code → Bool
 | .seq a b => ZfE a && ZfE b
 | .cond _ a b => ZfE a && ZfE b
 | .block _ a => ZfE a
 | .loop a => ZfE a
 | .region _ ops _ => ZS ZlX ops.toList
 | .scope _ => false
 | _ => true
abbrev Fr (r : Option Nat) : Fence := { Fence.wide with round := r }
theorem ZoH {o : Oper} (h : ZlX o = true) : ∀ c, o.op ≠ .defer c := fun c e => by unfold ZlX at h; rw [e] at h; cases h
section
variable {P : Program} {ext : FuncId → Option Ext} {r : Option Nat}
theorem Z0c {n : Nat} {row : String} {args : Array Value} {w : World} {R : Value → World → Prop} (h : Rows P row args w R) : RowsIn (Fr r) n P row args w R := fun c cs _ => by
 obtain ⟨v, w', q, s⟩ := h c cs
 exact ⟨v, w', q, stepsIn_wide.2 s⟩
theorem Zzy {n f : Nat} {args : Array Value} {w : World} {R : Ending → World → Prop} (h : Calls P f args w R) : CallsIn (Fr r) n P f args w R := (callsIn_wide (n := n)).2 h
theorem Zvr {o : Oper} {a : Act} {w : World} {K : Act → World → Prop} {Q0 Q : Exit → Act → World → Prop} (hq : ∀ e a w, e ≠ .normal → ¬ Q0 e a w) (hnd : ∀ c, o.op ≠ .defer c) (h : o.wp P a w K Q0) : o.wpIn (Fr r) 0 P a w K Q := by
 refine ⟨fun _ _ => trivial, ?_⟩
 rw [Oper.semAt_eq _ _ _ hnd]
 unfold Oper.wp at h
 generalize (execOp a.eval o).run P w = x at h ⊢
 have no : ∀ (e : Exit) (a : Act) (w : World), e ≠ .normal → Q0 e a w → False := fun e a w he hx => hq e a w he hx
 cases x with
 | ok nx w' =>
  cases nx with
  | value v => exact h
  | skip => exact h
  | defer d => exact h
  | enter f args =>
   refine ⟨fun e => (by cases e), Zzy (Calls.mono h ?_)⟩
   intro e w2 h2
   cases e with
   | returned v => exact h2
   | panicked chain => exact (no _ _ _ (by simp) h2).elim
   | outgrown => obtain ⟨a0, w0, h0⟩ := h2; exact (no _ _ _ (by simp) h0).elim
  | row row args => exact ⟨fun e => (by cases e), Z0c h⟩
  | _ => exact h.elim
 | halt x w' =>
  cases x with
  | panic v => exact (no _ _ _ (by simp) h).elim
  | _ => exact h.elim
def Zyk (Q : Exit → Act → World → Prop) : Exit → Act → World → Prop := fun e a w => e = .normal ∧ Q .normal a w
theorem ZwC {Q : Exit → Act → World → Prop} : ∀ e a w, e ≠ .normal → ¬ Zyk Q e a w := fun e a w he h => he h.1
theorem Zvs {ops : Array Oper} {Q : Exit → Act → World → Prop} : ∀ (l : List Oper) (a : Act) (w : World), ZS ZlX l = true → wpList P ops (Zyk Q) l a w → wpListIn (Fr r) 0 P ops Q l a w
 | [], a, w, _, h => h.2
 | o :: l, a, w, hn, h => by
  have ho := ZoH (Za8 hn o (List.mem_cons_self ..))
  have hl : ZS ZlX l = true := Zvn fun x hx => Za8 hn x (List.mem_cons_of_mem _ hx)
  unfold wpList at h
  unfold wpListIn
  split
  ·rename_i hw
   rw [if_pos hw] at h
   rcases h with h | ⟨_, a0, w0, h0⟩
   ·exact Zvr ZwC ho (Oper.wp_mono (fun a w => Zvs l a w hl) h)
   ·cases h0.1
  ·rename_i hw
   rw [if_neg hw] at h
   exact ⟨fun _ _ => trivial, Zvs l _ w hl h⟩
theorem ZuY {ops : Array Oper} {Q : Exit → Act → World → Prop} {md : Region.Mode} (hn : ZS ZlX ops.toList = true) : ∀ (fuel : Nat) (listed : Array Bool) (a : Act) (w : World), wpAny P md ops (Zyk Q) fuel listed a w → wpAnyIn (Fr r) 0 P md ops Q fuel listed a w
 | 0, listed, a, w, h => ⟨h.1, h.2.2⟩
 | fuel + 1, listed, a, w, h => by
  refine ⟨fun e => (h.1 e).2, fun i hi => ?_⟩
  have hi := h.2 i hi
  unfold wpOp at hi
  unfold wpOpIn
  split
  ·rename_i ho
   rw [ho] at hi
   exact ZuY hn fuel _ a w hi
  ·rename_i o ho
   rw [ho] at hi
   simp only at hi
   have hd := ZoH (Za8 hn o (by simpa using Array.mem_of_getElem? ho))
   split
   ·rename_i hw
    rw [if_pos hw] at hi
    rcases hi with hi | ⟨_, a0, w0, h0⟩
    ·exact Zvr ZwC hd (Oper.wp_mono (fun a w => ZuY hn fuel _ a w) hi)
    ·cases h0.1
   ·rename_i hw
    rw [if_neg hw] at hi
    exact ⟨fun _ _ => trivial, ZuY hn fuel _ _ w hi⟩
theorem Zlb {c : Code} {Q Q' : Exit → Act → World → Prop} (hq : ∀ e a w, Q e a w → Q' e a w) : ∀ (n : Nat) (a : Act) (w : World), Code.roundsIn (Fr r) 0 P c Q n a w → Code.roundsIn (Fr r) 0 P c Q' n a w
 | 0, _, _, h => h
 | n + 1, a, w, h => by
  rw [roundsIn_succ] at h ⊢
  refine wpIn_mono h ?_
  intro e a1 w1 h1
  cases e with
  | normal => exact Zlb hq n a1 w1 h1
  | _ => exact hq _ _ _ h1
theorem ZwD (F : Fit P ext) : ∀ fu : Nat,
  (∀ nt c T s e T' s', Zah P ext nt fu c T s = some (e, T', s') → ZfE c = true → (∀ p ∈ s'.ob, p.1 = p.2) → ∀ ι D a w, TR ι nt D T a → Emb P ι s.h.get w → Fresh ι s.n s'.n → c.wpIn (Fr r) 0 P (Zgw P ι s w nt D e T' s') a w) ∧
  (∀ nt c T s e T' s', Zah P ext nt fu (.loop c) T s = some (e, T', s') → ZfE c = true → (∀ p ∈ s'.ob, p.1 = p.2) → ∀ ι D a w, TR ι nt D T a → Emb P ι s.h.get w → Fresh ι s.n s'.n → Code.roundsIn (Fr r) 0 P c (Zgw P ι s w nt D e T' s') fu a w) := by
 intro fu
 induction fu with
 | zero => exact ⟨fun _ _ _ _ _ _ _ h => by simp [Zah] at h, fun _ _ _ _ _ _ _ h => by simp [Zah] at h⟩
 | succ fu ih =>
  obtain ⟨ihC, ihL⟩ := ih
  obtain ⟨upC, upO, upP, upF, upD, upE⟩ := ZeN (P := P) (ext := ext) (fun f g hg => (F.hp f g hg).up) fu
  have loops : ∀ nt c T s e T' s', Zah P ext nt (fu + 1) (.loop c) T s = some (e, T', s') → ZfE c = true → (∀ p ∈ s'.ob, p.1 = p.2) → ∀ ι D a w, TR ι nt D T a → Emb P ι s.h.get w → Fresh ι s.n s'.n → Code.roundsIn (Fr r) 0 P c (Zgw P ι s w nt D e T' s') (fu + 1) a w := by
   intro nt x T s e T' s' h hn ho ι D a w hT he hf
   simp only [Zah] at h
   rw [roundsIn_succ]
   split at h
   ·rename_i T1 s1 h1
    have u1 := upC _ _ _ _ _ _ _ h1
    have u2 := upC _ _ _ _ _ _ _ h
    refine wpIn_mono (ihC nt x T s .normal T1 s1 h1 hn (ZaY u2.ob ho) ι D a w hT he (hf.mono (Nat.le_refl _) u2.n)) ?_
    rintro ex a1 w1 ⟨rfl, ι1, g1, g2, g3⟩
    refine Zlb ?_ fu a1 w1 (ihL nt x T1 s1 e T' s' h hn ho ι1 D a1 w1 g3 g1.emb (hf.after g2 u1.n))
    rintro ex2 a2 w2 ⟨rfl, ι2, k1, k2, k3⟩
    exact ⟨rfl, ι2, g1.trans k1, g2.trans k2 u1.n u2.n, k3⟩
   ·rename_i i T1 s1 h1
    injection h with h; simp only [Prod.mk.injEq] at h; obtain ⟨rfl, rfl, rfl⟩ := h
    refine wpIn_mono (ihC nt x T s _ _ _ h1 hn ho ι D a w hT he hf) ?_
    rintro ex a1 w1 ⟨rfl, hq⟩
    exact ⟨rfl, hq⟩
   ·rename_i T1 s1 h1
    injection h with h; simp only [Prod.mk.injEq] at h; obtain ⟨rfl, rfl, rfl⟩ := h
    refine wpIn_mono (ihC nt x T s _ _ _ h1 hn ho ι D a w hT he hf) ?_
    rintro ex a1 w1 ⟨rfl, hq⟩
    exact ⟨rfl, hq⟩
   ·cases h
  refine ⟨fun nt c T s e T' s' h hn ho ι D a w hT he hf => ?_, loops⟩
  have base : Zgw P ι s w nt D .normal T s .normal a w ∧ Zgw P ι s w nt D .ret T s .ret a w ∧ ∀ i, Zgw P ι s w nt D (.exit i) T s (.exit i) a w :=
   ⟨⟨rfl, ι, Step.refl he, Dom.refl, hT⟩, ⟨rfl, ι, Step.refl he, Dom.refl, hT⟩, fun i => ⟨rfl, ι, Step.refl he, Dom.refl, hT⟩⟩
  have chain : ∀ {s1 : St} {T1 : Tr Value} {c2 : Code} {a1 : Act} {w1 : World} {ι1 : Ren}, ZfE c2 = true → Up s s1 → Up s1 s' → Step P ι s.h.get w ι1 s1.h.get w1 → Dom ι ι1 s.n s1.n → TR ι1 nt D T1 a1 → Zah P ext nt fu c2 T1 s1 = some (e, T', s') →
    c2.wpIn (Fr r) 0 P (Zgw P ι s w nt D e T' s') a1 w1 := fun {s1 T1 c2 a1 w1 ι1} n2 u1 u2 h1 h2 h3 h4 => by
   refine wpIn_mono (ihC nt c2 T1 s1 e T' s' h4 n2 ho ι1 D a1 w1 h3 h1.emb ((hf.mono (Nat.le_refl _) (Nat.le_refl _)).after h2 u1.n)) ?_
   rintro ex a2 w2 ⟨rfl, ι2, g1, g2, g3⟩
   exact ⟨rfl, ι2, (Step.two ⟨h1, h2⟩ ⟨g1, g2⟩ u1.n u2.n).1, (Step.two ⟨h1, h2⟩ ⟨g1, g2⟩ u1.n u2.n).2, g3⟩
  have h0 := h
  cases c <;> simp only [Zah] at h
  case skip => injection h with h; simp only [Prod.mk.injEq] at h; obtain ⟨rfl, rfl, rfl⟩ := h; exact wpIn_skip base.1
  case label l => injection h with h; simp only [Prod.mk.injEq] at h; obtain ⟨rfl, rfl, rfl⟩ := h; exact wpIn_label base.1
  case scope c => cases hn
  case ret => injection h with h; simp only [Prod.mk.injEq] at h; obtain ⟨rfl, rfl, rfl⟩ := h; exact wpIn_ret base.2.1
  case exit id => injection h with h; simp only [Prod.mk.injEq] at h; obtain ⟨rfl, rfl, rfl⟩ := h; exact wpIn_exit (base.2.2 id)
  case seq x y =>
   simp only [ZfE, Bool.and_eq_true] at hn
   split at h
   ·rename_i T1 s1 h1
    have u1 := upC _ _ _ _ _ _ _ h1
    have u2 := upC _ _ _ _ _ _ _ h
    refine wpIn_seq (wpIn_mono (ihC nt x T s .normal T1 s1 h1 hn.1 (ZaY u2.ob ho) ι D a w hT he (hf.mono (Nat.le_refl _) u2.n)) ?_)
    rintro ex a1 w1 ⟨rfl, ι1, g1, g2, g3⟩
    exact chain hn.2 u1 u2 g1 g2 g3 h
   ·rename_i i T1 s1 h1
    injection h with h; simp only [Prod.mk.injEq] at h; obtain ⟨rfl, rfl, rfl⟩ := h
    refine wpIn_seq (wpIn_mono (ihC nt x T s _ _ _ h1 hn.1 ho ι D a w hT he hf) ?_)
    rintro ex a1 w1 ⟨rfl, hq⟩
    exact ⟨rfl, hq⟩
   ·rename_i T1 s1 h1
    injection h with h; simp only [Prod.mk.injEq] at h; obtain ⟨rfl, rfl, rfl⟩ := h
    refine wpIn_seq (wpIn_mono (ihC nt x T s _ _ _ h1 hn.1 ho ι D a w hT he hf) ?_)
    rintro ex a1 w1 ⟨rfl, hq⟩
    exact ⟨rfl, hq⟩
   ·cases h
  case cond x y z =>
   simp only [ZfE, Bool.and_eq_true] at hn
   split at h
   ·rename_i t ht
    have hx : a.eval x = .bool t := Zhs ((ht ▸ hT.opnd x : VR ι (.bool t) (ZcY a x)).bool_inv)
    split at h
    ·exact wpIn_cond_true hx (ihC nt y T s e T' s' h hn.1 ho ι D a w hT he hf)
    ·exact wpIn_cond_false hx (ihC nt z T s e T' s' h hn.2 ho ι D a w hT he hf)
   ·cases h
  case block id x =>
   simp only [ZfE] at hn
   split at h
   ·rename_i i T1 s1 h1
    cases hb : Nat.beq i id with
    | true =>
     rw [hb] at h
     injection h with h; simp only [Prod.mk.injEq] at h; obtain ⟨rfl, rfl, rfl⟩ := h
     refine wpIn_block (wpIn_mono (ihC nt x T s _ _ _ h1 hn ho ι D a w hT he hf) ?_)
     rintro ex a1 w1 ⟨rfl, hq⟩
     show if i = id then _ else _
     rw [if_pos (Nat.eq_of_beq_eq_true hb)]
     exact ⟨rfl, hq⟩
    | false =>
     rw [hb] at h
     injection h with h; simp only [Prod.mk.injEq] at h; obtain ⟨rfl, rfl, rfl⟩ := h
     refine wpIn_block (wpIn_mono (ihC nt x T s _ _ _ h1 hn ho ι D a w hT he hf) ?_)
     rintro ex a1 w1 ⟨rfl, hq⟩
     show if i = id then _ else _
     rw [if_neg (fun e => by rw [ZkY e] at hb; cases hb)]
     exact ⟨rfl, hq⟩
   ·rename_i T1 s1 h1
    injection h with h; simp only [Prod.mk.injEq] at h; obtain ⟨rfl, rfl, rfl⟩ := h
    refine wpIn_block (wpIn_mono (ihC nt x T s _ _ _ h1 hn ho ι D a w hT he hf) ?_)
    rintro ex a1 w1 ⟨rfl, hq⟩
    exact ⟨rfl, hq⟩
   ·rename_i T1 s1 h1
    injection h with h; simp only [Prod.mk.injEq] at h; obtain ⟨rfl, rfl, rfl⟩ := h
    refine wpIn_block (wpIn_mono (ihC nt x T s _ _ _ h1 hn ho ι D a w hT he hf) ?_)
    rintro ex a1 w1 ⟨rfl, hq⟩
    exact ⟨rfl, hq⟩
   ·cases h
  case loop x =>
   simp only [ZfE] at hn
   exact wpIn_loop_rounds (fu + 1) (loops nt x T s e T' s' h0 hn ho ι D a w hT he hf)
  case region id ops draw =>
   simp only [ZfE] at hn
   cases draw with
   | true =>
    simp only [cond_true] at h
    split at h
    ·rename_i es T1 s1 h1
     injection h with h; simp only [Prod.mk.injEq] at h; obtain ⟨rfl, rfl, rfl⟩ := h
     exact wpIn_region_any F.mixed (ZuY hn _ _ _ _ (Zw9 F (fun fu' _ => (ZfD F fu').2.2.1) h1 ho hT he hf fun ι' a' w' g1 g2 g3 => ⟨rfl, rfl, ι', g1, g2, g3⟩))
    ·cases h
   | false =>
   simp only [cond_false] at h
   split at h
   ·rename_i T1 s1 h1
    injection h with h; simp only [Prod.mk.injEq] at h; obtain ⟨rfl, rfl, rfl⟩ := h
    exact wpIn_region_list (Zvs _ _ _ hn ((ZfD F fu).2.1 nt ops ops.toList T s T1 s1 h1 ho ι D a w _ hT he hf fun ι' a' w' g1 g2 g3 => ⟨rfl, rfl, ι', g1, g2, g3⟩))
   ·cases h
  all_goals cases h
end
end Ev
end Go.Proofs.YtgpekgedjmhmeaaGreat
/- Ranges over functions: the rounds, the iterator, the statement. -/
namespace Go.Proofs.YtgpekgedjmhmeaaGreat
open Go.RowKit
namespace Ev
noncomputable section
structure Cx where
 nt : Nat
 T : Tr Value
 ps : Array Tmp
 asg : Code
 body : Code
def Zzz : List Tmp → List Value → Tr Value → Tr Value
 | t :: ts, v :: vs, T => Zzz ts vs (T.set t (some v))
 | _, _, T => T
def isN : Ex → Bool
 | .normal => true
 | _ => false
def pend : Ex → Option Ex
 | .normal => none
 | e => some e
def Zp3 (P : Program) (ext : FuncId → Option Ext) (cx : Cx) (fu : Nat) (xs : List Value) (s : St) : Option (Ex × St) :=
 bif Nat.beq xs.length cx.ps.toList.length && ZS (fun t => Nat.blt t cx.nt) cx.ps.toList && ZfE cx.asg && ZfE cx.body then
  match Zah P ext cx.nt fu cx.asg (Zzz cx.ps.toList xs cx.T) s with
  | some (.normal, T1, s1) => match Zah P ext cx.nt fu cx.body T1 s1 with
   | some (e, _, s2) => some (e, s2)
   | none => none
  | _ => none
 else none
def ZxD (ys : List Tmp) (o : Oper) : Option (Array Operand) :=
 match o.op with
 | .call c => match c.callee with
  | .value (.tmp t) => bif ZpZ t ys then some c.args else none
  | _ => none
 | _ => none
def ZuZ (ys : List Tmp) (o : Oper) : Bool :=
 match o.op with
 | .move (.tmp t) => ZpZ t ys
 | _ => false
def Zyl (dst : Option Tmp) (ys : List Tmp) : List Tmp := match dst with | some d => ys.filter (fun t => !Nat.beq t d) | none => ys
def addY (dst : Option Tmp) (ys : List Tmp) : List Tmp := match dst with | some d => d :: ys | none => ys
def ZhK (P : Program) (ext : FuncId → Option Ext) (nt : Nat) (cx : Cx) (fu : Nat) (ops : Array Oper) : List Oper → Tr Value → St → List Tmp → Option Ex → Option (Tr Value × St × List Tmp × Option Ex)
 | [], T, s, ys, pe => some (T, s, ys, pe)
 | o :: l, T, s, ys, pe =>
  bif ZhQ nt o.dst && ZS ZhF o.op.operands.toList && (ZlX o && o.guard.isNone) then
   match ZxD ys o with
   | some xs => match pe with
    | none => match Zp3 P ext cx fu (xs.toList.map (opnd T)) s with
     | some (e, s1) => ZhK P ext nt cx fu ops l (ZfQ T o.dst (.bool (isN e))) s1 (Zyl o.dst ys) (pend e)
     | none => none
    | some _ => none
   | none => bif ZuZ ys o then ZhK P ext nt cx fu ops l (ZfQ T o.dst (.chan (some 0))) s (addY o.dst ys) pe
    else match ZhT P ext fu (opnd T) o s with
     | some (v, s1) => ZhK P ext nt cx fu ops l (ZfQ T o.dst v) s1 (Zyl o.dst ys) pe
     | none => none
  else none
def evI (P : Program) (ext : FuncId → Option Ext) (nt : Nat) (cx : Cx) : Nat → Code → Tr Value → St → List Tmp → Option Ex → Option (Ex × Tr Value × St × List Tmp × Option Ex)
 | 0, _, _, _, _, _ => none
 | fu + 1, c, T, s, ys, pe => match c with
  | .skip => some (.normal, T, s, ys, pe)
  | .ret => some (.ret, T, s, ys, pe)
  | .exit id => some (.exit id, T, s, ys, pe)
  | .seq a b => match evI P ext nt cx fu a T s ys pe with
   | some (.normal, T', s', ys', pe') => evI P ext nt cx fu b T' s' ys' pe'
   | some (.exit i, r) => some (.exit i, r)
   | some (.ret, r) => some (.ret, r)
   | none => none
  | .cond x a b => match opnd T x with
   | .bool t => match t with
    | true => evI P ext nt cx fu a T s ys pe
    | false => evI P ext nt cx fu b T s ys pe
   | _ => none
  | .block id a => match evI P ext nt cx fu a T s ys pe with
   | some (.exit i, r) => bif Nat.beq i id then some (.normal, r) else some (.exit i, r)
   | some (.normal, r) => some (.normal, r)
   | some (.ret, r) => some (.ret, r)
   | none => none
  | .loop a => match evI P ext nt cx fu a T s ys pe with
   | some (.normal, T', s', ys', pe') => evI P ext nt cx fu (.loop a) T' s' ys' pe'
   | some (.exit i, r) => some (.exit i, r)
   | some (.ret, r) => some (.ret, r)
   | none => none
  | .region _ ops draw => match draw with
   | true => none
   | false => match ZhK P ext nt cx fu ops ops.toList T s ys pe with
    | some (T', s', ys', pe') => some (.normal, T', s', ys', pe')
    | none => none
  | _ => none
def ZwE (P : Program) (ext : FuncId → Option Ext) (nt fu : Nat) (g : Operand) (ps : Array Tmp) (asg body : Code) (T : Tr Value) (s : St) : Option (Ex × St) :=
 match opnd T g with
 | .func (.func gf) av bv => match P.funcs[gf]? with
  | some fn => match fn.body with
   | some c => bif ZhF g && Nat.ble (av ++ #[Value.chan (some 0)] ++ bv).size fn.ntmps && Nat.beq fn.results.toList.length 0 then
     match evI P ext fn.ntmps ⟨nt, T, ps, asg, body⟩ fu c (Zhp 0 (av ++ #[Value.chan (some 0)] ++ bv).toList .nil) s [av.size] none with
     | some (.exit _, _) => none
     | some (_, _, s', _, none) => some (.normal, s')
     | some (_, _, s', _, some e) => bif isN e then none else some (e, s')
     | none => none
    else none
   | none => none
  | none => none
 | _ => none
def evR (P : Program) (ext : FuncId → Option Ext) (nt : Nat) : Nat → Code → Tr Value → St → Bool → Option (Ex × Tr Value × St × Bool)
 | 0, _, _, _, _ => none
 | fu + 1, c, T, s, m => match c with
  | .seq a b => match evR P ext nt fu a T s m with
   | some (.normal, T', s', m') => evR P ext nt fu b T' s' m'
   | some (.exit i, r) => some (.exit i, r)
   | some (.ret, r) => some (.ret, r)
   | none => none
  | .cond x a b => match opnd T x with
   | .bool t => match t with
    | true => evR P ext nt fu a T s m
    | false => evR P ext nt fu b T s m
   | _ => none
  | .block id a => match evR P ext nt fu a T s m with
   | some (.exit i, r) => bif Nat.beq i id then some (.normal, r) else some (.exit i, r)
   | some (.normal, r) => some (.normal, r)
   | some (.ret, r) => some (.ret, r)
   | none => none
  | .rangeFunc g ps asg body => bif m then none else match ZwE P ext nt fu g ps asg body T s with
   | some (e, s') => some (e, T, s', true)
   | none => none
  | .region i ops draw => match Zah P ext nt (fu + 1) (.region i ops draw) T s with
   | some (e, T', s') => some (e, T', s', m)
   | none => none
  | .loop a => match Zah P ext nt (fu + 1) (.loop a) T s with
   | some (e, T', s') => some (e, T', s', m)
   | none => none
  | .skip => some (.normal, T, s, m)
  | .ret => some (.ret, T, s, m)
  | .exit id => some (.exit id, T, s, m)
  | _ => none
def ZlJ (P : Program) (ext : FuncId → Option Ext) (fu : Nat) (f : FuncId) (args : Array Value) (s : St) : Out :=
 match P.funcs[f]? with
 | some fn => match fn.body with
  | some c => bif Nat.ble args.size fn.ntmps then match evR P ext fn.ntmps fu c (Zhp 0 args.toList .nil) s false with
   | some (.exit _, _) => none
   | some (_, T, s', _) => match ZbY P T s' fn.results.toList with
    | some [v] => some (v, s')
    | some vs => some (.tuple vs.toArray, s')
    | none => none
   | none => none
   else none
  | none => none
 | none => none
end
section
variable {P : Program} {ext : FuncId → Option Ext}
theorem Step.put {ι0 ι : Ren} {h0 h : AH} {w0 W : World} (st : Step P ι0 h0 w0 ι h W) {l : Nat} (hl : w0.heap.size ≤ l) (hn : ∀ k b, ι k = some b → b.1 ≠ l) (o : Obj) : Step P ι0 h0 w0 ι h (W.putObj l o) where
 ext := st.ext
 emb := ⟨fun k c t hk => by
   obtain ⟨b, C, q1, q2, q3⟩ := st.emb.obj k c t hk
   exact ⟨b, C, q1, (World.putObj_heap_other (hn k b q1)).trans q2, q3⟩,
  fun k O hk => by
   obtain ⟨b, q1, q2⟩ := st.emb.ro k O hk
   exact ⟨b, q1, q2.on (World.putObj_heap_other (hn k b q1))⟩, st.emb.inj, fun k b hk => by
   have := st.emb.lt k b hk
   simpa [World.putObj] using this⟩
 os := st.os
 tape := st.tape
 output := st.output
 size := by have := st.size; simpa [World.putObj] using this
 frame := fun b hb hc => (World.putObj_heap_other (by omega)).trans (st.frame b hb hc)
 new := st.new
 alive := st.alive
 kind := st.kind
structure IS (P : Program) (ι0 : Ren) (h0 : AH) (w0 : World) (n0 : Nat) (cn : Nat) (cT : Tr Value) (ac : Act) (l K : Nat) (R : Loop) (ι : Ren) (s : St) (W : World) : Prop where
 st : Step P ι0 h0 w0 ι s.h.get W
 dm : Dom ι0 ι n0 s.n
 hn : n0 ≤ s.n
 tr : TR ι cn [] cT { tmps := ac.tmps, defers := [] }
 lo : W.heap[l]? = some (.loop R)
 de : W.heap[K]? = some (.deferred (some []))
 ll : w0.heap.size ≤ l
 lk : K ≠ l
 nl : ∀ k b, ι k = some b → b.1 ≠ l ∧ b.1 ≠ K
theorem ZtN {ι ι1 : Ren} {h h1 : AH} {W W1 : World} (g : Step P ι h W ι1 h1 W1) {l : Nat} (hl : l < W.heap.size) (hn : ∀ k b, ι k = some b → b.1 ≠ l) : (∀ k b, ι1 k = some b → b.1 ≠ l) ∧ W1.heap[l]? = W.heap[l]? := by
 refine ⟨fun k b hk => ?_, g.frame l hl fun k c _ hc => hn k c hc⟩
 cases hi : ι k with
 | some c =>
  have := g.ext k c hi
  rw [hk] at this
  injection this with this
  rw [this]; exact hn k c hi
 | none =>
  rcases g.new k b hi hk with h | ⟨j, c, _, hj, e⟩
  ·omega
  ·rw [← e]; exact hn j c hj
section
variable {ι0 : Ren} {h0 : AH} {w0 : World} {n0 cn : Nat} {cT : Tr Value} {ac : Act} {l K : Nat} {R : Loop}
theorem IS.step {ι ι1 : Ren} {s s1 : St} {W W1 : World} (I : IS P ι0 h0 w0 n0 cn cT ac l K R ι s W) (g1 : Step P ι s.h.get W ι1 s1.h.get W1) (g2 : Dom ι ι1 s.n s1.n) (hle : s.n ≤ s1.n) : IS P ι0 h0 w0 n0 cn cT ac l K R ι1 s1 W1 := by
 have hl : l < W.heap.size := (Array.getElem?_eq_some_iff.1 I.lo).1
 have hk : K < W.heap.size := (Array.getElem?_eq_some_iff.1 I.de).1
 obtain ⟨a1, a2⟩ := ZtN g1 hl fun k b h => (I.nl k b h).1
 obtain ⟨b1, b2⟩ := ZtN g1 hk fun k b h => (I.nl k b h).2
 exact ⟨I.st.trans g1, I.dm.trans g2 I.hn hle, Nat.le_trans I.hn hle, I.tr.on g1.ext, a2.trans I.lo, b2.trans I.de, I.ll, I.lk, fun k b h => ⟨a1 k b h, b1 k b h⟩⟩
theorem IS.put {ι : Ren} {s : St} {W : World} (I : IS P ι0 h0 w0 n0 cn cT ac l K R ι s W) (R' : Loop) : IS P ι0 h0 w0 n0 cn cT ac l K R' ι s (W.putObj l (.loop R')) := by
 have hl : l < W.heap.size := (Array.getElem?_eq_some_iff.1 I.lo).1
 exact ⟨I.st.put I.ll (fun k b h => (I.nl k b h).1) _, I.dm, I.hn, I.tr, World.putObj_heap_same hl, (World.putObj_heap_other I.lk).trans I.de, I.ll, I.lk, I.nl⟩
end
def Z0l : Ex → Code
 | .exit i => .exit i
 | _ => .ret
def Rp (R : Loop) : Option Ex → Loop
 | none => { R with state := .ready, pending := none }
 | some e => { R with state := .done, pending := some (Z0l e) }
theorem ZyM {ι : Ren} {nt : Nat} : ∀ (ps : List Tmp) (xs xs' : List Value) (T : Tr Value) (t : Array Value), TR ι nt [] T { tmps := t, defers := [] } → xs.length = ps.length → VRs ι xs.toArray xs'.toArray → ZS (fun t => Nat.blt t nt) ps = true →
  TR ι nt [] (Zzz ps xs T) { tmps := (ps.zip xs').foldl (fun t p => t.setIfInBounds p.1 p.2) t, defers := [] }
 | [], xs, xs', T, t, hT, hl, hx, hp => by
  cases xs with
  | nil => exact hT
  | cons x xs => simp at hl
 | p :: ps, [], xs', T, t, hT, hl, hx, hp => by simp at hl
 | p :: ps, x :: xs, [], T, t, hT, hl, hx, hp => by have := hx.1; simp at this
 | p :: ps, x :: xs, x' :: xs', T, t, hT, hl, hx, hp => by
  have hp1 : ZhQ nt (some p) = true := Za8 hp p (List.mem_cons_self ..)
  have hp2 : ZS (fun t => Nat.blt t nt) ps = true := Zvn fun y hy => Za8 hp y (List.mem_cons_of_mem _ hy)
  have h1 : VR ι x x' := hx.2 0 x x' (by simp) (by simp)
  have h2 : VRs ι xs.toArray xs'.toArray := ⟨by have := hx.1; simpa using this, fun i y y' hy hy' => hx.2 (i + 1) y y' (by simpa using hy) (by simpa using hy')⟩
  exact ZyM ps xs xs' (T.set p (some x)) (t.setIfInBounds p x') (hT.put (dst := some p) hp1 h1) (by simpa using hl) h2 hp2
section
variable {ι0 : Ren} {h0 : AH} {w0 : World} {n0 : Nat} {ac : Act} {l K : Nat} {R : Loop} {cx : Cx}
theorem Zxx (F : Fit P ext) {fu : Nat} {xs : List Value} {s s' : St} {e : Ex} (h : Zp3 P ext cx fu xs s = some (e, s')) (ho : ∀ p ∈ s'.ob, p.1 = p.2) {ι : Ren} {W : World}
  (hR : R.tmps = ac.tmps ∧ R.params = cx.ps ∧ R.assign = cx.asg ∧ R.body = cx.body) (I : IS P ι0 h0 w0 n0 cx.nt cx.T ac l K (Rp R none) ι s W) (hf : Fresh ι s.n s'.n) {xs' : Array Value} (hx : VRs ι xs.toArray xs') :
  ∃ tm, (Instr.yield l xs').run P W = .ok (.round l R.fn tm cx.asg cx.body) W ∧
   RoundIn (Fr none) 0 P l R.fn tm cx.asg cx.body W fun en W' => en = .returned (.bool (isN e)) ∧ ∃ ι', (∀ k b, ι k = some b → ι' k = some b) ∧ Dom ι ι' s.n s'.n ∧ IS P ι0 h0 w0 n0 cx.nt cx.T ac l K (Rp R (pend e)) ι' s' W' := by
 unfold Zp3 at h
 obtain ⟨hg, h⟩ := Zo h
 simp only [Bool.and_eq_true] at hg
 obtain ⟨⟨⟨hl, hps⟩, hna⟩, hnb⟩ := hg
 have hl := Nat.eq_of_beq_eq_true hl
 obtain ⟨upC, _⟩ := ZeN (P := P) (ext := ext) (fun f g hg => (F.hp f g hg).up) fu
 split at h
 ·rename_i T1 s1 h1
  split at h
  ·rename_i e' T2 s2 h2
   injection h with h; injection h with q1 q2; subst q1 q2
   have u1 := upC _ _ _ _ _ _ _ h1
   have u2 := upC _ _ _ _ _ _ _ h2
   have hy := run_yield (P := P) (args := xs') I.lo (by
    show xs'.size = R.params.size
    rw [hR.2.1]
    have a := hx.1
    have b := hl
    simp only [List.size_toArray, Array.length_toList] at a b
    omega)
   have e1 : (Rp R none).tmps = ac.tmps := hR.1
   have e2 : (Rp R none).params = cx.ps := hR.2.1
   have e3 : (Rp R none).assign = cx.asg := hR.2.2.1
   have e4 : (Rp R none).body = cx.body := hR.2.2.2
   have e5 : (Rp R none).fn = R.fn := rfl
   rw [e1, e2, e3, e4, e5] at hy
   refine ⟨_, hy, ?_⟩
   have htr := ZyM cx.ps.toList xs xs'.toList cx.T ac.tmps I.tr hl (by simpa using hx) hps
   have hfold : (cx.ps.zip xs').foldl (fun (tmps : Array Value) (x : Tmp × Value) => match x with | (t, a) => tmps.setIfInBounds t a) ac.tmps = (cx.ps.toList.zip xs'.toList).foldl (fun t p => t.setIfInBounds p.1 p.2) ac.tmps := by
    rw [← Array.foldl_toList, Array.toList_zip]
   rw [hfold]
   refine roundIn_of_wpIn (F := Fr none) trivial ?_
   refine wpIn_mono (((ZwD (r := some l) F fu).1 cx.nt cx.asg _ s .normal T1 s1 h1 hna (ZaY u2.ob ho) ι [] _ W htr I.st.emb (hf.mono (Nat.le_refl _) u2.n)) : Code.wpIn (Fr (some l)) 0 P _ _ _ W) ?_
   rintro ex a1 w1 ⟨rfl, ι1, g1, g2, g3⟩
   have I1 := I.step g1 g2 u1.n
   refine ⟨_, run_beginRound I1.lo rfl, ?_⟩
   have I2 := I1.put { Rp R none with state := .busy }
   refine wpIn_mono (((ZwD (r := some l) F fu).1 cx.nt cx.body T1 s1 e' T2 s2 h2 hnb ho ι1 [] a1 _ g3 I2.st.emb (hf.after g2 u1.n)) : Code.wpIn (Fr (some l)) 0 P _ _ _ _) ?_
   rintro ex a2 w2 ⟨rfl, ι2, k1, k2, k3⟩
   have I3 := I2.step k1 k2 u2.n
   have hext : ∀ k b, ι k = some b → ι2 k = some b := fun k b hk => k1.ext k b (g1.ext k b hk)
   have hdom : Dom ι ι2 s.n s2.n := g2.trans k2 u1.n u2.n
   cases e' with
   | normal => exact ⟨_, _, run_endRound none I3.lo, rfl, ι2, hext, hdom, I3.put _⟩
   | ret => exact ⟨_, _, run_endRound (some .ret) I3.lo, rfl, ι2, hext, hdom, I3.put _⟩
   | exit i => exact ⟨_, _, run_endRound (some (.exit i)) I3.lo, rfl, ι2, hext, hdom, I3.put _⟩
  ·cases h
 ·cases h
end
end
end Ev
end Go.Proofs.YtgpekgedjmhmeaaGreat
/- Ranges over functions: the iterator's code, the statement, the function. -/
namespace Go.Proofs.YtgpekgedjmhmeaaGreat
open Go.RowKit
namespace Ev
section
variable {P : Program} {ext : FuncId → Option Ext}
theorem ZwF (F : Fit P ext) {cx : Cx} {fu : Nat} {xs : List Value} {s s' : St} {e : Ex} (h : Zp3 P ext cx fu xs s = some (e, s')) : Up s s' := by
 unfold Zp3 at h
 obtain ⟨_, h⟩ := Zo h
 obtain ⟨upC, _⟩ := ZeN (P := P) (ext := ext) (fun f g hg => (F.hp f g hg).up) fu
 split at h
 ·rename_i T1 s1 h1
  split at h
  ·rename_i e' T2 s2 h2
   injection h with h; injection h with q1 q2; subst q1 q2
   exact (upC _ _ _ _ _ _ _ h1).trans (upC _ _ _ _ _ _ _ h2)
  ·cases h
 ·cases h
theorem ZlK (F : Fit P ext) {nt : Nat} {cx : Cx} {fu : Nat} {ops : Array Oper} : ∀ (l : List Oper) (T : Tr Value) (s : St) (ys : List Tmp) (pe : Option Ex) (T' : Tr Value) (s' : St) (ys' : List Tmp) (pe' : Option Ex), ZhK P ext nt cx fu ops l T s ys pe = some (T', s', ys', pe') → Up s s'
 | [], T, s, ys, pe, T', s', ys', pe', h => by
  simp only [ZhK] at h
  injection h with h; simp only [Prod.mk.injEq] at h; obtain ⟨rfl, rfl, rfl, rfl⟩ := h
  exact Up.refl _
 | o :: l, T, s, ys, pe, T', s', ys', pe', h => by
  simp only [ZhK] at h
  obtain ⟨_, h⟩ := Zo h
  split at h
  ·split at h
   ·split at h
    ·rename_i e s1 h1
     exact (ZwF F h1).trans (ZlK F l _ _ _ _ _ _ _ _ h)
    ·cases h
   ·cases h
  ·cases hm : ZuZ ys o with
   | true => rw [hm] at h; exact ZlK F l _ _ _ _ _ _ _ _ h
   | false =>
    rw [hm] at h
    simp only [cond_false] at h
    split at h
    ·rename_i v s1 h1
     exact ((ZeN (P := P) (ext := ext) (fun f g hg => (F.hp f g hg).up) fu).2.2.1 _ _ _ _ _ h1).trans (ZlK F l _ _ _ _ _ _ _ _ h)
    ·cases h
theorem ZfY (F : Fit P ext) {nt : Nat} {cx : Cx} : ∀ (fu : Nat) (c : Code) (T : Tr Value) (s : St) (ys : List Tmp) (pe : Option Ex) (e : Ex) (T' : Tr Value) (s' : St) (ys' : List Tmp) (pe' : Option Ex), evI P ext nt cx fu c T s ys pe = some (e, T', s', ys', pe') → Up s s'
 | 0, _, _, _, _, _, _, _, _, _, _, h => by simp [evI] at h
 | fu + 1, c, T, s, ys, pe, e, T', s', ys', pe', h => by
  cases c <;> simp only [evI] at h
  case skip => injection h with h; simp only [Prod.mk.injEq] at h; obtain ⟨rfl, rfl, rfl, rfl, rfl⟩ := h; exact Up.refl _
  case ret => injection h with h; simp only [Prod.mk.injEq] at h; obtain ⟨rfl, rfl, rfl, rfl, rfl⟩ := h; exact Up.refl _
  case exit id => injection h with h; simp only [Prod.mk.injEq] at h; obtain ⟨rfl, rfl, rfl, rfl, rfl⟩ := h; exact Up.refl _
  case seq x y =>
   split at h
   ·rename_i T1 s1 ys1 pe1 h1; exact (ZfY F fu _ _ _ _ _ _ _ _ _ _ h1).trans (ZfY F fu _ _ _ _ _ _ _ _ _ _ h)
   ·rename_i i r h1; injection h with h; simp only [Prod.mk.injEq] at h; obtain ⟨rfl, rfl⟩ := h; exact ZfY F fu _ _ _ _ _ _ _ _ _ _ h1
   ·rename_i r h1; injection h with h; simp only [Prod.mk.injEq] at h; obtain ⟨rfl, rfl⟩ := h; exact ZfY F fu _ _ _ _ _ _ _ _ _ _ h1
   ·cases h
  case cond x y z =>
   split at h
   ·split at h
    ·exact ZfY F fu _ _ _ _ _ _ _ _ _ _ h
    ·exact ZfY F fu _ _ _ _ _ _ _ _ _ _ h
   ·cases h
  case block id x =>
   split at h
   ·rename_i i r h1
    cases hb : Nat.beq i id with
    | true => rw [hb] at h; injection h with h; simp only [Prod.mk.injEq] at h; obtain ⟨rfl, rfl⟩ := h; exact ZfY F fu _ _ _ _ _ _ _ _ _ _ h1
    | false => rw [hb] at h; injection h with h; simp only [Prod.mk.injEq] at h; obtain ⟨rfl, rfl⟩ := h; exact ZfY F fu _ _ _ _ _ _ _ _ _ _ h1
   ·rename_i r h1; injection h with h; simp only [Prod.mk.injEq] at h; obtain ⟨rfl, rfl⟩ := h; exact ZfY F fu _ _ _ _ _ _ _ _ _ _ h1
   ·rename_i r h1; injection h with h; simp only [Prod.mk.injEq] at h; obtain ⟨rfl, rfl⟩ := h; exact ZfY F fu _ _ _ _ _ _ _ _ _ _ h1
   ·cases h
  case loop x =>
   split at h
   ·rename_i T1 s1 ys1 pe1 h1; exact (ZfY F fu _ _ _ _ _ _ _ _ _ _ h1).trans (ZfY F fu _ _ _ _ _ _ _ _ _ _ h)
   ·rename_i i r h1; injection h with h; simp only [Prod.mk.injEq] at h; obtain ⟨rfl, rfl⟩ := h; exact ZfY F fu _ _ _ _ _ _ _ _ _ _ h1
   ·rename_i r h1; injection h with h; simp only [Prod.mk.injEq] at h; obtain ⟨rfl, rfl⟩ := h; exact ZfY F fu _ _ _ _ _ _ _ _ _ _ h1
   ·cases h
  case region id ops draw =>
   split at h
   ·cases h
   ·split at h
    ·rename_i T1 s1 ys1 pe1 h1
     injection h with h; simp only [Prod.mk.injEq] at h; obtain ⟨rfl, rfl, rfl, rfl, rfl⟩ := h
     exact ZlK F _ _ _ _ _ _ _ _ _ h1
    ·cases h
  all_goals cases h
def YS (l : Nat) (ys : List Tmp) (a : Act) : Prop := ∀ t ∈ ys, a.tmps.getD t undef = .func (.yield l) #[] #[]
theorem YS.drop {l : Nat} {ys : List Tmp} {a : Act} {nt : Nat} (h : YS l ys a) (hs : a.tmps.size = nt) {dst : Option Tmp} (hd : ZhQ nt dst = true) (v : Value) : YS l (Zyl dst ys) (a.put dst v) := fun t ht => by
 rw [ZtK hs hd]
 cases dst with
 | none => rw [if_neg (by simp)]; exact h t ht
 | some d =>
  have ht : t ∈ ys.filter (fun t => !Nat.beq t d) := ht
  obtain ⟨h1, h2⟩ := List.mem_filter.1 ht
  have : ¬ d = t := fun e => by subst e; simp at h2
  rw [if_neg (by simpa using this)]
  exact h t h1
theorem YS.add {l : Nat} {ys : List Tmp} {a : Act} {nt : Nat} (h : YS l ys a) (hs : a.tmps.size = nt) {dst : Option Tmp} (hd : ZhQ nt dst = true) : YS l (addY dst ys) (a.put dst (.func (.yield l) #[] #[])) := fun t ht => by
 rw [ZtK hs hd]
 split
 ·rfl
 ·rename_i hne
  cases dst with
  | none => exact h t ht
  | some d =>
   rcases List.mem_cons.1 (show t ∈ d :: ys from ht) with rfl | ht
   ·exact absurd rfl hne
   ·exact h t ht
section
variable {ι0 : Ren} {h0 : AH} {w0 : World} {n0 : Nat} {ac : Act} {l0 K : Nat} {R : Loop} {cx : Cx}
theorem ZlA (F : Fit P ext) (hR : R.tmps = ac.tmps ∧ R.params = cx.ps ∧ R.assign = cx.asg ∧ R.body = cx.body) {nt fu : Nat} {ops : Array Oper} : ∀ (l : List Oper) (T : Tr Value) (s : St) (ys : List Tmp) (pe : Option Ex) (T' : Tr Value) (s' : St) (ys' : List Tmp) (pe' : Option Ex), ZhK P ext nt cx fu ops l T s ys pe = some (T', s', ys', pe') → (∀ p ∈ s'.ob, p.1 = p.2) →
  ∀ ι a W (Q : Exit → Act → World → Prop), TR ι nt [] T a → YS l0 ys a → IS P ι0 h0 w0 n0 cx.nt cx.T ac l0 K (Rp R pe) ι s W → Fresh ι s.n s'.n →
   (∀ ι' a' W', TR ι' nt [] T' a' → YS l0 ys' a' → IS P ι0 h0 w0 n0 cx.nt cx.T ac l0 K (Rp R pe') ι' s' W' → Dom ι ι' s.n s'.n → Q .normal a' W') → wpListIn (Fr none) 0 P ops Q l a W
 | [], T, s, ys, pe, T', s', ys', pe', h, ho, ι, a, W, Q, hT, hY, I, hf, hQ => by
  simp only [ZhK] at h
  injection h with h; simp only [Prod.mk.injEq] at h; obtain ⟨rfl, rfl, rfl, rfl⟩ := h
  exact hQ ι a W hT hY I Dom.refl
 | o :: l, T, s, ys, pe, T', s', ys', pe', h, ho, ι, a, W, Q, hT, hY, I, hf, hQ => by
  simp only [ZhK] at h
  obtain ⟨hg, h⟩ := Zo h
  simp only [Bool.and_eq_true] at hg
  obtain ⟨⟨hd, hgo⟩, hnd, hgu⟩ := hg
  have hnd := ZoH hnd
  have hgu : o.guard = none := by simpa using hgu
  have hwant : Region.wanted o (yielded ops a.tmps) = true := (ZfX (ops := ops) (s := s) (s' := s) (b := true) (fun t _ => hT.2.2 t) (by simp [ZgD, hgu])).1
  unfold wpListIn
  rw [if_pos hwant]
  split at h
  ·rename_i xs hy
   have hy : ∃ c t, o.op = .call c ∧ c.callee = .value (.tmp t) ∧ t ∈ ys ∧ c.args = xs := by
    unfold ZxD at hy
    split at hy
    ·rename_i c hop
     split at hy
     ·rename_i t hc
      obtain ⟨hm, hy⟩ := Zo hy
      injection hy with hy
      exact ⟨c, t, hop, hc, ZjI.1 hm, hy⟩
     ·cases hy
    ·cases hy
   obtain ⟨c, t, hop, hc, ht, rfl⟩ := hy
   split at h
   ·split at h
    ·rename_i e s1 h1
     have u1 := ZwF F h1
     have u2 := ZlK F _ _ _ _ _ _ _ _ _ h
     have hx : VRs ι (c.args.toList.map (opnd T)).toArray (c.args.map (ZcY a)) := by
      have := ZlD hT.opnd c.args
      rwa [show (c.args.toList.map (opnd T)).toArray = c.args.map (opnd T) by rw [← Array.toList_map]]
     obtain ⟨tm, hrun, hround⟩ := Zxx F h1 (ZaY u2.ob ho) hR I (hf.mono (Nat.le_refl _) u2.n) hx
     have hex : (execOp a.eval o).run P W = .ok (.round l0 R.fn tm cx.asg cx.body) W := by
      rw [← Zkd (fun cs b e => by rw [hop] at e; cases e) hgo, ← hrun]
      have hv : ZcY a (.tmp t) = .func (.yield l0) #[] #[] := hY t ht
      simp [execOp, hop, resolve, hc, hv, Deferred.ofValue, invoke, Result.andThen, Sem.run]
     refine ⟨fun _ _ => trivial, ?_⟩
     rw [show (Fr none).round = none from rfl, Oper.semAt_none, hex, Oper.uponIn_round]
     refine ⟨fun e => (by cases e), hround.mono ?_⟩
     rintro en W' ⟨rfl, ι', hext, hdom, I'⟩
     refine ZlA F hR l _ s1 _ _ T' s' ys' pe' h ho ι' _ W' Q ((hT.on hext).put hd (VR.of_free rfl)) (hY.drop hT.1 hd _) I' (hf.after hdom u1.n) fun ι2 a2 W2 k1 k2 k3 k4 => hQ ι2 a2 W2 k1 k2 k3 (hdom.trans k4 u1.n u2.n)
    ·cases h
   ·cases h
  ·cases hm : ZuZ ys o with
   | true =>
    rw [hm] at h
    simp only [cond_true] at h
    have hm : ∃ t, o.op = .move (.tmp t) ∧ t ∈ ys := by
     unfold ZuZ at hm
     split at hm
     ·rename_i t hop; exact ⟨t, hop, ZjI.1 hm⟩
     ·cases hm
    obtain ⟨t, hop, ht⟩ := hm
    have hv : a.eval (.tmp t) = .func (.yield l0) #[] #[] := hY t ht
    refine ⟨fun _ _ => trivial, ?_⟩
    rw [show (Fr none).round = none from rfl, Oper.semAt_none]
    have hex : (execOp a.eval o).run P W = .ok (.value (.func (.yield l0) #[] #[])) W := by
     unfold execOp; rw [hop]; simp only; rw [hv]; rfl
    rw [hex, Oper.uponIn_value]
    exact ZlA F hR l _ s _ pe T' s' ys' pe' h ho ι _ W Q (hT.put hd (VR.glob rfl)) (hY.add hT.1 hd) I hf hQ
   | false =>
    rw [hm] at h
    simp only [cond_false] at h
    split at h
    ·rename_i v s1 hv
     have u1 := (ZeN (P := P) (ext := ext) (fun f g hg => (F.hp f g hg).up) fu).2.2.1 _ _ _ _ _ hv
     have u2 := ZlK F _ _ _ _ _ _ _ _ _ h
     refine Zvr (r := none) (Q0 := fun _ _ _ => False) (fun _ _ _ _ h => h) hnd ((ZfD F fu).2.2.1 (opnd T) (ZcY a) o s v s1 hv (ZaY u2.ob ho) ι W hT.opnd I.st.emb (hf.mono (Nat.le_refl _) u2.n) a _ _ (Zkd (Zqh hv) hgo).symm fun v' w' ι' g1 g2 g3 => ?_)
     exact ZlA F hR l _ s1 _ pe T' s' ys' pe' h ho ι' _ w' Q ((hT.on g1.ext).put hd g3) (hY.drop hT.1 hd _) (I.step g1 g2 u1.n) (hf.after g2 u1.n) fun ι2 a2 W2 k1 k2 k3 k4 => hQ ι2 a2 W2 k1 k2 k3 (g2.trans k4 u1.n u2.n)
    ·cases h
end
end
end Ev
end Go.Proofs.YtgpekgedjmhmeaaGreat
