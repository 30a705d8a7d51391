/- The runner against the model: code and calls. -/
import Derived.Test.YtpgbennpiihajaaEvF
namespace Go.Proofs.Ytpgbennpiihajaa
open Go.RowKit
namespace Ev

/-! ### Numbers rise, and answers stay -/
theorem Zd3 {a b : List (Bool × Bool)} (h : a <:+ b) (hb : ∀ p ∈ b, p.1 = p.2) : ∀ p ∈ a, p.1 = p.2 := fun p hp => hb p (h.subset hp)
structure Up (s s' : St) : Prop where
 n : s.n ≤ s'.n
 ob : s.ob <:+ s'.ob
 log : ∃ l, s'.wr = l ++ s.wr ∧ ∀ k, k ∉ l → ¬ (s.n ≤ k ∧ k < s'.n) → s'.h.get k = s.h.get k
theorem Up.refl (s : St) : Up s s := ⟨Nat.le_refl _, List.suffix_refl _, [], rfl, fun _ _ _ => rfl⟩
theorem Up.trans {a b c : St} (h : Up a b) (k : Up b c) : Up a c := by
 obtain ⟨l, h1, h2⟩ := h.log
 obtain ⟨m, k1, k2⟩ := k.log
 refine ⟨Nat.le_trans h.n k.n, h.ob.trans k.ob, m ++ l, by rw [k1, h1, List.append_assoc], fun j hj hn => ?_⟩
 have := h.n
 have := k.n
 rw [k2 j (fun e => hj (List.mem_append_left _ e)) (by omega), h2 j (fun e => hj (List.mem_append_right _ e)) (by omega)]
theorem Zik {s s1 : St} {t b : Bool} (h : s.tst t = (b, s1)) : Up s s1 := by
 unfold St.tst at h
 split at h <;> (injection h with h1 h2; subst h1 h2)
 ·exact Up.refl _
 ·exact ⟨Nat.le_refl _, List.suffix_refl _, [], rfl, fun _ _ _ => rfl⟩
 ·exact ⟨Nat.le_refl _, List.suffix_cons _ _, [], rfl, fun _ _ _ => rfl⟩
theorem Zwx {s s1 : St} {x y : Int} (h : s.vst x = (y, s1)) : Up s s1 := by
 unfold St.vst at h
 split at h <;> (injection h with h1 h2; subst h1 h2)
 ·exact Up.refl _
 ·exact ⟨Nat.le_refl _, List.suffix_refl _, [], rfl, fun _ _ _ => rfl⟩
 ·exact ⟨Nat.le_refl _, List.suffix_cons _ _, [], rfl, fun _ _ _ => rfl⟩
theorem Zch {s s1 : St} {k o : Nat} {l : List Value} (h : Zd0 s k o l = some s1) : Up s s1 := by
 unfold Zd0 at h
 split at h
 ·replace h := Z8 h
  obtain ⟨_, h⟩ := h
  injection h with h
  subst h
  refine ⟨Nat.le_refl _, List.suffix_refl _, [k], rfl, fun j hj _ => ?_⟩
  show (s.h.set k _).get j = _
  rw [Tr.get_set, Z2 (by simpa using hj)]
 ·cases h
section
variable {P : Program} {ρ : Operand → Value} {s s' : St} {v : Value}
theorem Zbu {o : Oper} (h : ZeY P ρ o s = some (v, s')) : Up s s' := by
 unfold ZeY at h
 replace h := (Z8 h).2
 split at h
 ·replace h := (Z8 h).2
  injection h with h; injection h with h1 h2; subst h1 h2; exact Up.refl _
 ·cases h
theorem up_add {c : List Value} {t : TypeId} : Up s (s.add c t) := ⟨Nat.le_succ _, List.suffix_refl _, [], rfl, fun j _ hn => by
 show (s.h.set s.n _).get j = _
 rw [Tr.get_set, Z2 (fun e => hn ⟨by omega, by show j < s.n + 1; omega⟩)]⟩
theorem up_turn {k : Nat} {c : List Value} {t : TypeId} : Up s (s.turn k c t) := ⟨Nat.le_succ _, List.suffix_refl _, [k], rfl, fun j hj hn => by
 show ((s.h.set k none).set s.n _).get j = _
 rw [Tr.get_set, Z2 (fun e => hn ⟨by omega, by show j < s.n + 1; omega⟩), Tr.get_set, Z2 (by simpa using hj)]⟩
theorem ZuZ {t tx : TypeId} {x y : Value} (h : ZdC P s t tx x y = some (v, s')) : Up s s' := by
 unfold ZdC at h
 try simp only [cond_eq_ite] at h
 repeat' (split at h)
 all_goals first
  | (cases h; done)
  | (injection h with h; injection h with h1 h2; subst h1 h2; first | exact Up.refl _ | exact up_add | exact up_turn | exact Zch (by assumption))
  | exact Zbu h
theorem ZrC {t n : Nat} {ps : Array (Nat × Operand)} (h : Zgb P ρ t n ps s = some (v, s')) : Up s s' := by
 unfold Zgb at h
 try simp only [cond_eq_ite] at h
 repeat' (split at h)
 all_goals first
  | (cases h; done)
  | (injection h with h; injection h with h1 h2; subst h1 h2; first | exact Up.refl _ | exact up_add | exact up_turn | exact Zch (by assumption))
  | exact Zbu h
theorem Zv2 {t : Nat} {ps : Array (Nat × Operand)} (h : ZkS P ρ t ps s = some (v, s')) : Up s s' := by
 unfold ZkS at h
 try simp only [cond_eq_ite] at h
 repeat' (split at h)
 all_goals first
  | (cases h; done)
  | (injection h with h; injection h with h1 h2; subst h1 h2; first | exact Up.refl _ | exact up_add | exact up_turn | exact Zch (by assumption))
  | exact Zbu h
theorem Zv3 {t : Nat} {a x : Operand} (h : ZhM P ρ t a x s = some (v, s')) : Up s s' := by
 unfold ZhM at h
 try simp only [cond_eq_ite] at h
 repeat' (split at h)
 all_goals first
  | (cases h; done)
  | (injection h with h; injection h with h1 h2; subst h1 h2; first | exact Up.refl _ | exact up_add | exact up_turn | exact Zch (by assumption))
  | exact Zbu h
theorem Zs9 {t f : Nat} {x : Operand} (h : ZgE P ρ t x f s = some (v, s')) : Up s s' := by
 unfold ZgE at h
 try simp only [cond_eq_ite] at h
 repeat' (split at h)
 all_goals first
  | (cases h; done)
  | (injection h with h; injection h with h1 h2; subst h1 h2; first | exact Up.refl _ | exact up_add | exact up_turn | exact Zch (by assumption))
  | exact Zbu h
theorem Zv4 {t f : Nat} {x : Operand} (h : ZkU P ρ t x f s = some (v, s')) : Up s s' := by
 unfold ZkU at h
 try simp only [cond_eq_ite] at h
 repeat' (split at h)
 all_goals first
  | (cases h; done)
  | (injection h with h; injection h with h1 h2; subst h1 h2; first | exact Up.refl _ | exact up_add | exact up_turn | exact Zch (by assumption))
  | exact Zbu h
theorem Zv5 {t : Nat} {x ix : Operand} (h : ZkV P ρ t x ix s = some (v, s')) : Up s s' := by
 unfold ZkV at h
 try simp only [cond_eq_ite] at h
 repeat' (split at h)
 all_goals first
  | (cases h; done)
  | (injection h with h; injection h with h1 h2; subst h1 h2; first | exact Up.refl _ | exact up_add | exact up_turn | exact Zch (by assumption))
  | exact Zbu h
theorem Znq {t : Nat} {x ix : Operand} (h : ZeN P ρ t x ix s = some (v, s')) : Up s s' := by
 unfold ZeN at h
 try simp only [cond_eq_ite] at h
 repeat' (split at h)
 all_goals first
  | (cases h; done)
  | (injection h with h; injection h with h1 h2; subst h1 h2; first | exact Up.refl _ | exact up_add | exact up_turn | exact Zch (by assumption))
  | exact Zbu h
theorem ZpA {t : Nat} {x : Operand} {lo hi : Option Operand} (h : Zgp P ρ t x lo hi s = some (v, s')) : Up s s' := by
 unfold Zgp at h
 try simp only [cond_eq_ite] at h
 repeat' (split at h)
 all_goals first
  | (cases h; done)
  | (injection h with h; injection h with h1 h2; subst h1 h2; first | exact Up.refl _ | exact up_add | exact up_turn | exact Zch (by assumption))
  | exact Zbu h
theorem ZsA {t : Nat} {l c : Operand} (h : ZeO P ρ t l c s = some (v, s')) : Up s s' := by
 unfold ZeO at h
 try simp only [cond_eq_ite] at h
 repeat' (split at h)
 all_goals first
  | (cases h; done)
  | (injection h with h; injection h with h1 h2; subst h1 h2; first | exact Up.refl _ | exact up_add | exact up_turn | exact Zch (by assumption))
  | exact Zbu h
theorem Zu1 {a b : TypeId} {x : Operand} (h : Zie P ρ a b x s = some (v, s')) : Up s s' := by
 unfold Zie at h
 try simp only [cond_eq_ite] at h
 repeat' (split at h)
 all_goals first
  | (cases h; done)
  | (injection h with h; injection h with h1 h2; subst h1 h2; first | exact Up.refl _ | exact up_add | exact up_turn | exact Zch (by assumption))
  | exact Zbu h
theorem Zva {o : Oper} {op : BinOp} {t : TypeId} {x y : Operand} (h : ZiV P ρ o op t x y s = some (v, s')) : Up s s' := by
 unfold ZiV at h
 split at h
 ·injection h with h; injection h with h1 h2; subst h1 h2; exact Up.refl _
 ·injection h with h; injection h with h1 h2; subst h1 h2; exact Up.refl _
 split at h
 ·rename_i r hr
  injection h with h; subst h
  exact Zbu hr
 ·split at h <;> first | (cases h; done) | (injection h with h; injection h with h1 h2; subst h1 h2; exact Up.refl _)
theorem Zbx {s s1 : St} {a : Option Zak} (h : s.nextW = (a, s1)) : Up s s1 := by
 unfold St.nextW at h
 split at h <;> (injection h with h1 h2; subst h1 h2; exact ⟨Nat.le_refl _, List.suffix_refl _, [], rfl, fun _ _ _ => rfl⟩)
theorem Zby (q : Bool) : Up s (s.told q) := ⟨Nat.le_refl _, List.suffix_cons _ _, [], rfl, fun _ _ _ => rfl⟩
theorem up_putK {k : Nat} {c : List Value} {t : TypeId} : Up s (s.putK k c t) := ⟨Nat.le_refl _, List.suffix_refl _, [k], rfl, fun j hj _ => by
 show (s.h.set k _).get j = _
 rw [Tr.get_set, Z2 (by simpa using hj)]⟩
theorem Zvb {t : Nat} {a x : Operand} {c : List Value} (h : Zjs P ρ t a x c s = some (v, s')) : Up s s' := by
 unfold Zjs at h
 try simp only [cond_eq_ite] at h
 repeat' (split at h)
 all_goals first
  | (cases h; done)
  | (injection h with h; injection h with h1 h2; subst h1 h2; exact up_putK.trans (Zby _))
theorem Zwf {x y : Operand} (h : Znk ρ x y s = some (v, s')) : Up s s' := by
 unfold Znk at h
 split at h
 ·injection h with h; injection h with h1 h2; subst h1 h2; exact Zby _
 ·cases h
theorem Zwy {op : BinOp} {x y : Operand} {n : Nat} (h : Zow ρ op x y n s = some (v, s')) : Up s s' := by
 unfold Zow at h
 split at h
 ·injection h with h; injection h with h1 h2; subst h1 h2; exact Zby _
 ·injection h with h; injection h with h1 h2; subst h1 h2; exact Zby _
 ·cases h
theorem Zvc {t : Nat} {x : Operand} {lo hi : Option Operand} {l m : Nat} (h : Zjv P ρ t x lo hi l m s = some (v, s')) : Up s s' := by
 unfold Zjv at h
 try simp only [cond_eq_ite] at h
 repeat' (split at h)
 all_goals first
  | (cases h; done)
  | (injection h with h; injection h with h1 h2; subst h1 h2; exact ((Zby _).trans (Zby _)).trans (Zby _))
theorem Zwg {t : Nat} {x : Operand} {lo hi : Option Operand} {m : Nat} {c : List Value} (h : Znj P ρ t x lo hi m c s = some (v, s')) : Up s s' := by
 unfold Znj at h
 try simp only [cond_eq_ite] at h
 repeat' (split at h)
 all_goals first
  | (cases h; done)
  | (injection h with h; injection h with h1 h2; subst h1 h2; exact ((up_turn.trans (Zby _)).trans (Zby _)).trans (Zby _))
theorem Zv6 {t : Nat} {l c : Operand} {n cp : Nat} {cs : List Value} (h : ZkX P ρ t l c n cp cs s = some (v, s')) : Up s s' := by
 unfold ZkX at h
 try simp only [cond_eq_ite] at h
 repeat' (split at h)
 all_goals first
  | (cases h; done)
  | (injection h with h; injection h with h1 h2; subst h1 h2; exact ((up_add.trans (Zby _)).trans (Zby _)).trans (Zby _))
theorem Zu2 {t tx : TypeId} {x y : Value} {m : Nat} {l c : List Value} (h : ZkT P s t tx x y m l c = some (v, s')) : Up s s' := by
 unfold ZkT at h
 try simp only [cond_eq_ite] at h
 repeat' (split at h)
 all_goals first
  | (cases h; done)
  | (injection h with h; injection h with h1 h2; subst h1 h2; first | exact up_add.trans (Zby _) | exact up_turn.trans (Zby _))
theorem ZtJ {t tx : TypeId} {x y : Value} {m : Nat} {l c : List Value} (h : Zjt P s t tx x y m l c = some (v, s')) : Up s s' := by
 unfold Zjt at h
 try simp only [cond_eq_ite] at h
 repeat' (split at h)
 all_goals first
  | (cases h; done)
  | (injection h with h; injection h with h1 h2; subst h1 h2; exact up_putK.trans (Zby _))
theorem ZtK {t tx : TypeId} {x y : Value} (h : Zju P s t tx x y = some (v, s')) : Up s s' := by
 unfold Zju at h
 try simp only [cond_eq_ite] at h
 repeat' (split at h)
 all_goals first
  | (cases h; done)
  | (injection h with h; injection h with h1 h2; subst h1 h2; exact Zby _)
theorem Zu3 {kk : IntKind} {e : Nat} {args : Array Value} {z : Int} {c : List Value} (h : Zif kk e args z c s = some (v, s')) : Up s s' := by
 unfold Zif at h
 repeat' (split at h)
 all_goals first
  | (cases h; done)
  | (injection h with h; injection h with h1 h2; subst h1 h2; first | exact Zby _ | exact up_putK.trans (Zby _) | exact ((Zby _).trans (Zik (by assumption))) | exact (((Zby _).trans (Zik (by assumption))).trans up_putK).trans (Zby _))
theorem Zu4 {o : Oper} {c : Call} {b : Builtin} (h : Zig P ρ o c b s = some (v, s')) : Up s s' := by
 unfold Zig at h
 split at h
 ·split at h
  ·split at h
   ·exact (Zbx (by assumption)).trans (Zu2 h)
   ·exact (Zbx (by assumption)).trans (ZtJ h)
   ·exact (Zbx (by assumption)).trans (ZtK h)
   ·cases h
   ·exact (Zbx (by assumption)).trans (ZuZ h)
  ·cases h
 ·split at h
  ·split at h
   ·injection h with h; injection h with h1 h2; subst h1 h2; exact Up.refl _
   ·exact Zbu h
  ·cases h
 ·exact Zbu h
theorem ZsB {s s1 : St} {a : Option Nat} (h : s.nextX = (a, s1)) : Up s s1 := by
 unfold St.nextX at h
 split at h <;> (injection h with h1 h2; subst h1 h2)
 ·exact Up.refl _
 ·exact ⟨Nat.le_refl _, List.suffix_refl _, [], rfl, fun _ _ _ => rfl⟩
theorem ZsC {s s1 : St} {a : Option (List Cell)} (h : s.nextL = (a, s1)) : Up s s1 := by
 unfold St.nextL at h
 split at h <;> (injection h with h1 h2; subst h1 h2)
 ·exact Up.refl _
 ·exact ⟨Nat.le_refl _, List.suffix_refl _, [], rfl, fun _ _ _ => rfl⟩
theorem up_told {s : St} {q : Bool} : Up s (s.told q) := ⟨Nat.le_refl _, List.suffix_cons _ _, [], rfl, fun _ _ _ => rfl⟩
theorem ZrD {t : Nat} {x ix : Operand} {i : Nat} (h : Zgc P ρ t x ix i s = some (v, s')) : Up s s' := by
 unfold Zgc at h
 repeat' (split at h)
 all_goals first
  | (cases h; done)
  | (injection h with h; injection h with h1 h2; subst h1 h2; exact up_told.trans up_told)
theorem Zv7 {t : Nat} {a : Operand} {l : List Cell} (h : ZkW P ρ t a l s = some (v, s')) : Up s s' := by
 unfold ZkW at h
 repeat' (split at h)
 all_goals first
  | (cases h; done)
  | (injection h with h; injection h with h1 h2; subst h1 h2; exact up_told)
theorem Znr {t : Nat} {x : Operand} {lo hi : Option Operand} (h : Zjw P ρ t x lo hi s = some (v, s')) : Up s s' := by
 unfold Zjw at h
 split at h
 ·split at h
  ·replace h := (Z8 h).2
   split at h
   ·injection h with h; injection h with h1 h2; subst h1 h2; exact Zik (by assumption)
   ·cases h
  ·cases h
 ·cases h
theorem Zub {o : Oper} {t : Nat} {x : Operand} {lo hi : Option Operand} (h : Zuw P ρ o t x lo hi s = some (v, s')) : Up s s' := by
 unfold Zuw at h
 split at h
 ·exact (Zbx (by assumption)).trans (Zvc h)
 ·exact (Zbx (by assumption)).trans (Zwg h)
 ·cases h
 ·split at h
  ·injection h with h; subst h; exact (Zbx (by assumption)).trans (ZpA (by assumption))
  ·split at h
   ·injection h with h; subst h; exact (Zbx (by assumption)).trans (Znr (by assumption))
   ·exact (Zbx (by assumption)).trans (Zbu h)
theorem Zwz {o : Oper} (h : ev1 P ρ o s = some (v, s')) : Up s s' := by
 unfold ev1 at h
 split at h
 all_goals first
  | exact Zub h | exact ZrC h | exact Zv2 h | exact Zs9 h | exact Zv4 h | exact Znq h | exact Zva h | exact Zbu h
  | (injection h with h; injection h with h1 h2; subst h1 h2; first | exact Up.refl _ | exact up_add)
  | (cases h; done)
  | skip
 ·split at h
  ·split at h <;> (injection h with h; injection h with h1 h2; subst h1 h2; exact Up.refl _)
  ·cases h
 all_goals (repeat' (split at h))
 all_goals first
  | (cases h; done)
  | exact (Zbx (by assumption)).trans (Zvb h)
  | exact (Zbx (by assumption)).trans (Zv3 h)
  | exact (Zbx (by assumption)).trans (Zwf h)
  | exact (Zbx (by assumption)).trans (Zwy h)
  | exact (Zbx (by assumption)).trans (Zva h)
  | exact Zub h
  | exact (Zbx (by assumption)).trans (Zv6 h)
  | exact (Zbx (by assumption)).trans (ZsA h)
  | exact (Zbx (by assumption)).trans (Zbu h)
  | (injection h with h; subst h; first | exact (Zbx (by assumption)).trans (ZpA (by assumption)) | exact (Zbx (by assumption)).trans (Znr (by assumption)))
  | exact (ZsC (by assumption)).trans (Zv7 h)
  | exact (ZsB (by assumption)).trans (ZrD h)
  | exact (ZsB (by assumption)).trans (Znq h)
  | (injection h with h; injection h with h1 h2; subst h1 h2; exact ZsC (by assumption))
  | exact Zu4 h
  | exact Zbu h
  | (injection h with h; injection h with h1 h2; subst h1 h2; first | exact Up.refl _ | exact up_add)
  | (injection h with h; subst h; first | exact Zv5 (by assumption) | exact ZpA (by assumption) | exact Znr (by assumption) | exact Zu1 (by assumption))
theorem Zwh {n : Nat} {args : Array Value} (h : Znl n args s = some (v, s')) : Up s s' := by
 unfold Znl at h
 split at h
 ·injection h with h; injection h with h1 h2; subst h1 h2; exact Up.refl _
 ·injection h with h; injection h with h1 h2; subst h1 h2; exact Up.refl _
 ·cases h
theorem Zvd {kk : IntKind} {e : Nat} {args : Array Value} (h : Ze0 kk e args s = some (v, s')) : Up s s' := by
 unfold Ze0 at h
 repeat' (split at h)
 all_goals first
  | (cases h; done)
  | (injection h with h; injection h with h1 h2; subst h1 h2; first | exact Up.refl _ | exact Zch (by assumption) | exact Zik (by assumption) | exact (Zik (by assumption)).trans (Zch (by assumption)))
theorem Zuc {o : Oper} {v1 : Value} {s1 : St} (h : Zsz o v s = (v1, s1)) : Up s s1 := by
 unfold Zsz at h
 split at h
 all_goals first
  | (generalize hq : s.tst _ = q at h; obtain ⟨b, s2⟩ := q; simp only [Prod.mk.injEq] at h; obtain ⟨rfl, rfl⟩ := h; exact Zik hq)
  | (generalize hq : s.vst _ = q at h; obtain ⟨b, s2⟩ := q; simp only [Prod.mk.injEq] at h; obtain ⟨rfl, rfl⟩ := h; exact Zwx hq)
  | (simp only [Prod.mk.injEq] at h; obtain ⟨rfl, rfl⟩ := h; exact Up.refl _)
end
end Ev
end Go.Proofs.Ytpgbennpiihajaa
