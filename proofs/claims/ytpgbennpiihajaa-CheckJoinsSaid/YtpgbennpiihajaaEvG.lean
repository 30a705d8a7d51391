/- The runner against the model: code and calls. -/
import Derived.Test.YtpgbennpiihajaaEvF
namespace Go.Proofs.Ytpgbennpiihajaa
open Go.RowKit
namespace Ev

/-! ### Numbers rise, and answers stay -/
theorem ZcN {a b : List (Bool × Bool)} (h : a <:+ b) (hb : ∀ p ∈ b, p.1 = p.2) : ∀ p ∈ a, p.1 = p.2 := fun p hp => hb p (h.subset hp)
structure Up (s s' : St) : Prop where
 n : s.n ≤ s'.n
 ob : s.ob <:+ s'.ob
 log : ∃ l, s'.wr = l ++ s.wr ∧ ∀ k, k ∉ l → ¬ (s.n ≤ k ∧ k < s'.n) → s'.h.get k = s.h.get k
theorem Up.refl (s : St) : Up s s := ⟨Nat.le_refl _, List.suffix_refl _, [], rfl, fun _ _ _ => rfl⟩
theorem Up.trans {a b c : St} (h : Up a b) (k : Up b c) : Up a c := by
 obtain ⟨l, h1, h2⟩ := h.log
 obtain ⟨m, k1, k2⟩ := k.log
 refine ⟨Nat.le_trans h.n k.n, h.ob.trans k.ob, m ++ l, by rw [k1, h1, List.append_assoc], fun j hj hn => ?_⟩
 have := h.n
 have := k.n
 rw [k2 j (fun e => hj (List.mem_append_left _ e)) (by omega), h2 j (fun e => hj (List.mem_append_right _ e)) (by omega)]
theorem Zhu {s s1 : St} {t b : Bool} (h : s.tst t = (b, s1)) : Up s s1 := by
 unfold St.tst at h
 split at h <;> (injection h with h1 h2; subst h1 h2)
 ·exact Up.refl _
 ·exact ⟨Nat.le_refl _, List.suffix_refl _, [], rfl, fun _ _ _ => rfl⟩
 ·exact ⟨Nat.le_refl _, List.suffix_cons _ _, [], rfl, fun _ _ _ => rfl⟩
theorem ZtE {s s1 : St} {x y : Int} (h : s.vst x = (y, s1)) : Up s s1 := by
 unfold St.vst at h
 split at h <;> (injection h with h1 h2; subst h1 h2)
 ·exact Up.refl _
 ·exact ⟨Nat.le_refl _, List.suffix_refl _, [], rfl, fun _ _ _ => rfl⟩
 ·exact ⟨Nat.le_refl _, List.suffix_cons _ _, [], rfl, fun _ _ _ => rfl⟩
theorem ZbS {s s1 : St} {k o : Nat} {l : List Value} (h : ZcJ s k o l = some s1) : Up s s1 := by
 unfold ZcJ at h
 split at h
 ·replace h := ZH h
  obtain ⟨_, h⟩ := h
  injection h with h
  subst h
  refine ⟨Nat.le_refl _, List.suffix_refl _, [k], rfl, fun j hj _ => ?_⟩
  show (s.h.set k _).get j = _
  rw [Tr.get_set, Z4 (by simpa using hj)]
 ·cases h
section
variable {P : Program} {ρ : Operand → Value} {s s' : St} {v : Value}
theorem Zbk {o : Oper} (h : Zee P ρ o s = some (v, s')) : Up s s' := by
 unfold Zee at h
 replace h := (ZH h).2
 split at h
 ·replace h := (ZH h).2
  injection h with h; injection h with h1 h2; subst h1 h2; exact Up.refl _
 ·cases h
theorem up_add {c : List Value} {t : TypeId} : Up s (s.add c t) := ⟨Nat.le_succ _, List.suffix_refl _, [], rfl, fun j _ hn => by
 show (s.h.set s.n _).get j = _
 rw [Tr.get_set, Z4 (fun e => hn ⟨by omega, by show j < s.n + 1; omega⟩)]⟩
theorem up_turn {k : Nat} {c : List Value} {t : TypeId} : Up s (s.turn k c t) := ⟨Nat.le_succ _, List.suffix_refl _, [k], rfl, fun j hj hn => by
 show ((s.h.set k none).set s.n _).get j = _
 rw [Tr.get_set, Z4 (fun e => hn ⟨by omega, by show j < s.n + 1; omega⟩), Tr.get_set, Z4 (by simpa using hj)]⟩
theorem Zsp {t tx : TypeId} {x y : Value} (h : ZcR P s t tx x y = some (v, s')) : Up s s' := by
 unfold ZcR at h
 try simp only [cond_eq_ite] at h
 repeat' (split at h)
 all_goals first
  | (cases h; done)
  | (injection h with h; injection h with h1 h2; subst h1 h2; first | exact Up.refl _ | exact up_add | exact up_turn | exact ZbS (by assumption))
  | exact Zbk h
theorem Zpf {t n : Nat} {ps : Array (Nat × Operand)} (h : ZeQ P ρ t n ps s = some (v, s')) : Up s s' := by
 unfold ZeQ at h
 try simp only [cond_eq_ite] at h
 repeat' (split at h)
 all_goals first
  | (cases h; done)
  | (injection h with h; injection h with h1 h2; subst h1 h2; first | exact Up.refl _ | exact up_add | exact up_turn | exact ZbS (by assumption))
  | exact Zbk h
theorem ZsH {t : Nat} {ps : Array (Nat × Operand)} (h : ZjE P ρ t ps s = some (v, s')) : Up s s' := by
 unfold ZjE at h
 try simp only [cond_eq_ite] at h
 repeat' (split at h)
 all_goals first
  | (cases h; done)
  | (injection h with h; injection h with h1 h2; subst h1 h2; first | exact Up.refl _ | exact up_add | exact up_turn | exact ZbS (by assumption))
  | exact Zbk h
theorem ZsI {t : Nat} {a x : Operand} (h : Zhe P ρ t a x s = some (v, s')) : Up s s' := by
 unfold Zhe at h
 try simp only [cond_eq_ite] at h
 repeat' (split at h)
 all_goals first
  | (cases h; done)
  | (injection h with h; injection h with h1 h2; subst h1 h2; first | exact Up.refl _ | exact up_add | exact up_turn | exact ZbS (by assumption))
  | exact Zbk h
theorem ZpW {t f : Nat} {x : Operand} (h : Zfw P ρ t x f s = some (v, s')) : Up s s' := by
 unfold Zfw at h
 try simp only [cond_eq_ite] at h
 repeat' (split at h)
 all_goals first
  | (cases h; done)
  | (injection h with h; injection h with h1 h2; subst h1 h2; first | exact Up.refl _ | exact up_add | exact up_turn | exact ZbS (by assumption))
  | exact Zbk h
theorem ZsJ {t f : Nat} {x : Operand} (h : ZjG P ρ t x f s = some (v, s')) : Up s s' := by
 unfold ZjG at h
 try simp only [cond_eq_ite] at h
 repeat' (split at h)
 all_goals first
  | (cases h; done)
  | (injection h with h; injection h with h1 h2; subst h1 h2; first | exact Up.refl _ | exact up_add | exact up_turn | exact ZbS (by assumption))
  | exact Zbk h
theorem ZsK {t : Nat} {x ix : Operand} (h : ZjH P ρ t x ix s = some (v, s')) : Up s s' := by
 unfold ZjH at h
 try simp only [cond_eq_ite] at h
 repeat' (split at h)
 all_goals first
  | (cases h; done)
  | (injection h with h; injection h with h1 h2; subst h1 h2; first | exact Up.refl _ | exact up_add | exact up_turn | exact ZbS (by assumption))
  | exact Zbk h
theorem ZlN {t : Nat} {x ix : Operand} (h : ZdP P ρ t x ix s = some (v, s')) : Up s s' := by
 unfold ZdP at h
 try simp only [cond_eq_ite] at h
 repeat' (split at h)
 all_goals first
  | (cases h; done)
  | (injection h with h; injection h with h1 h2; subst h1 h2; first | exact Up.refl _ | exact up_add | exact up_turn | exact ZbS (by assumption))
  | exact Zbk h
theorem Zn8 {t : Nat} {x : Operand} {lo hi : Option Operand} (h : Zfj P ρ t x lo hi s = some (v, s')) : Up s s' := by
 unfold Zfj at h
 try simp only [cond_eq_ite] at h
 repeat' (split at h)
 all_goals first
  | (cases h; done)
  | (injection h with h; injection h with h1 h2; subst h1 h2; first | exact Up.refl _ | exact up_add | exact up_turn | exact ZbS (by assumption))
  | exact Zbk h
theorem ZpX {t : Nat} {l c : Operand} (h : ZdQ P ρ t l c s = some (v, s')) : Up s s' := by
 unfold ZdQ at h
 try simp only [cond_eq_ite] at h
 repeat' (split at h)
 all_goals first
  | (cases h; done)
  | (injection h with h; injection h with h1 h2; subst h1 h2; first | exact Up.refl _ | exact up_add | exact up_turn | exact ZbS (by assumption))
  | exact Zbk h
theorem ZrH {a b : TypeId} {x : Operand} (h : Zho P ρ a b x s = some (v, s')) : Up s s' := by
 unfold Zho at h
 try simp only [cond_eq_ite] at h
 repeat' (split at h)
 all_goals first
  | (cases h; done)
  | (injection h with h; injection h with h1 h2; subst h1 h2; first | exact Up.refl _ | exact up_add | exact up_turn | exact ZbS (by assumption))
  | exact Zbk h
theorem Zsq {o : Oper} {op : BinOp} {t : TypeId} {x y : Operand} (h : Zib P ρ o op t x y s = some (v, s')) : Up s s' := by
 unfold Zib at h
 split at h
 ·injection h with h; injection h with h1 h2; subst h1 h2; exact Up.refl _
 ·injection h with h; injection h with h1 h2; subst h1 h2; exact Up.refl _
 split at h
 ·rename_i r hr
  injection h with h; subst h
  exact Zbk hr
 ·split at h <;> first | (cases h; done) | (injection h with h; injection h with h1 h2; subst h1 h2; exact Up.refl _)
theorem Zbn {s s1 : St} {a : Option Zag} (h : s.nextW = (a, s1)) : Up s s1 := by
 unfold St.nextW at h
 split at h <;> (injection h with h1 h2; subst h1 h2; exact ⟨Nat.le_refl _, List.suffix_refl _, [], rfl, fun _ _ _ => rfl⟩)
theorem Zbo (q : Bool) : Up s (s.told q) := ⟨Nat.le_refl _, List.suffix_cons _ _, [], rfl, fun _ _ _ => rfl⟩
theorem up_putK {k : Nat} {c : List Value} {t : TypeId} : Up s (s.putK k c t) := ⟨Nat.le_refl _, List.suffix_refl _, [k], rfl, fun j hj _ => by
 show (s.h.set k _).get j = _
 rw [Tr.get_set, Z4 (by simpa using hj)]⟩
theorem Zsr {t : Nat} {a x : Operand} {c : List Value} (h : Zi3 P ρ t a x c s = some (v, s')) : Up s s' := by
 unfold Zi3 at h
 try simp only [cond_eq_ite] at h
 repeat' (split at h)
 all_goals first
  | (cases h; done)
  | (injection h with h; injection h with h1 h2; subst h1 h2; exact up_putK.trans (Zbo _))
theorem Ztt {x y : Operand} (h : ZlH ρ x y s = some (v, s')) : Up s s' := by
 unfold ZlH at h
 split at h
 ·injection h with h; injection h with h1 h2; subst h1 h2; exact Zbo _
 ·cases h
theorem ZtF {op : BinOp} {x y : Operand} {n : Nat} (h : ZmG ρ op x y n s = some (v, s')) : Up s s' := by
 unfold ZmG at h
 split at h
 ·injection h with h; injection h with h1 h2; subst h1 h2; exact Zbo _
 ·injection h with h; injection h with h1 h2; subst h1 h2; exact Zbo _
 ·cases h
theorem Zss {t : Nat} {x : Operand} {lo hi : Option Operand} {l m : Nat} (h : Zi6 P ρ t x lo hi l m s = some (v, s')) : Up s s' := by
 unfold Zi6 at h
 try simp only [cond_eq_ite] at h
 repeat' (split at h)
 all_goals first
  | (cases h; done)
  | (injection h with h; injection h with h1 h2; subst h1 h2; exact ((Zbo _).trans (Zbo _)).trans (Zbo _))
theorem Ztu {t : Nat} {x : Operand} {lo hi : Option Operand} {m : Nat} {c : List Value} (h : ZlG P ρ t x lo hi m c s = some (v, s')) : Up s s' := by
 unfold ZlG at h
 try simp only [cond_eq_ite] at h
 repeat' (split at h)
 all_goals first
  | (cases h; done)
  | (injection h with h; injection h with h1 h2; subst h1 h2; exact ((up_turn.trans (Zbo _)).trans (Zbo _)).trans (Zbo _))
theorem ZsL {t : Nat} {l c : Operand} {n cp : Nat} {cs : List Value} (h : ZjJ P ρ t l c n cp cs s = some (v, s')) : Up s s' := by
 unfold ZjJ at h
 try simp only [cond_eq_ite] at h
 repeat' (split at h)
 all_goals first
  | (cases h; done)
  | (injection h with h; injection h with h1 h2; subst h1 h2; exact ((up_add.trans (Zbo _)).trans (Zbo _)).trans (Zbo _))
theorem ZrI {t tx : TypeId} {x y : Value} {m : Nat} {l c : List Value} (h : ZjF P s t tx x y m l c = some (v, s')) : Up s s' := by
 unfold ZjF at h
 try simp only [cond_eq_ite] at h
 repeat' (split at h)
 all_goals first
  | (cases h; done)
  | (injection h with h; injection h with h1 h2; subst h1 h2; first | exact up_add.trans (Zbo _) | exact up_turn.trans (Zbo _))
theorem Zrc {t tx : TypeId} {x y : Value} {m : Nat} {l c : List Value} (h : Zi4 P s t tx x y m l c = some (v, s')) : Up s s' := by
 unfold Zi4 at h
 try simp only [cond_eq_ite] at h
 repeat' (split at h)
 all_goals first
  | (cases h; done)
  | (injection h with h; injection h with h1 h2; subst h1 h2; exact up_putK.trans (Zbo _))
theorem Zrd {t tx : TypeId} {x y : Value} (h : Zi5 P s t tx x y = some (v, s')) : Up s s' := by
 unfold Zi5 at h
 try simp only [cond_eq_ite] at h
 repeat' (split at h)
 all_goals first
  | (cases h; done)
  | (injection h with h; injection h with h1 h2; subst h1 h2; exact Zbo _)
theorem ZrJ {kk : IntKind} {e : Nat} {args : Array Value} {z : Int} {c : List Value} (h : Zhp kk e args z c s = some (v, s')) : Up s s' := by
 unfold Zhp at h
 repeat' (split at h)
 all_goals first
  | (cases h; done)
  | (injection h with h; injection h with h1 h2; subst h1 h2; first | exact Zbo _ | exact up_putK.trans (Zbo _) | exact ((Zbo _).trans (Zhu (by assumption))) | exact (((Zbo _).trans (Zhu (by assumption))).trans up_putK).trans (Zbo _))
theorem ZrK {o : Oper} {c : Call} {b : Builtin} (h : Zhq P ρ o c b s = some (v, s')) : Up s s' := by
 unfold Zhq at h
 split at h
 ·split at h
  ·split at h
   ·exact (Zbn (by assumption)).trans (ZrI h)
   ·exact (Zbn (by assumption)).trans (Zrc h)
   ·exact (Zbn (by assumption)).trans (Zrd h)
   ·cases h
   ·exact (Zbn (by assumption)).trans (Zsp h)
  ·cases h
 ·split at h
  ·split at h
   ·injection h with h; injection h with h1 h2; subst h1 h2; exact Up.refl _
   ·exact Zbk h
  ·cases h
 ·exact Zbk h
theorem ZpY {s s1 : St} {a : Option Nat} (h : s.nextX = (a, s1)) : Up s s1 := by
 unfold St.nextX at h
 split at h <;> (injection h with h1 h2; subst h1 h2)
 ·exact Up.refl _
 ·exact ⟨Nat.le_refl _, List.suffix_refl _, [], rfl, fun _ _ _ => rfl⟩
theorem ZpZ {s s1 : St} {a : Option (List Cell)} (h : s.nextL = (a, s1)) : Up s s1 := by
 unfold St.nextL at h
 split at h <;> (injection h with h1 h2; subst h1 h2)
 ·exact Up.refl _
 ·exact ⟨Nat.le_refl _, List.suffix_refl _, [], rfl, fun _ _ _ => rfl⟩
theorem up_told {s : St} {q : Bool} : Up s (s.told q) := ⟨Nat.le_refl _, List.suffix_cons _ _, [], rfl, fun _ _ _ => rfl⟩
theorem Zpg {t : Nat} {x ix : Operand} {i : Nat} (h : ZeR P ρ t x ix i s = some (v, s')) : Up s s' := by
 unfold ZeR at h
 repeat' (split at h)
 all_goals first
  | (cases h; done)
  | (injection h with h; injection h with h1 h2; subst h1 h2; exact up_told.trans up_told)
theorem ZsM {t : Nat} {a : Operand} {l : List Cell} (h : ZjI P ρ t a l s = some (v, s')) : Up s s' := by
 unfold ZjI at h
 repeat' (split at h)
 all_goals first
  | (cases h; done)
  | (injection h with h; injection h with h1 h2; subst h1 h2; exact up_told)
theorem ZlO {t : Nat} {x : Operand} {lo hi : Option Operand} (h : Zi7 P ρ t x lo hi s = some (v, s')) : Up s s' := by
 unfold Zi7 at h
 split at h
 ·split at h
  ·replace h := (ZH h).2
   split at h
   ·injection h with h; injection h with h1 h2; subst h1 h2; exact Zhu (by assumption)
   ·cases h
  ·cases h
 ·cases h
theorem Zrt {o : Oper} {t : Nat} {x : Operand} {lo hi : Option Operand} (h : ZrC P ρ o t x lo hi s = some (v, s')) : Up s s' := by
 unfold ZrC at h
 split at h
 ·exact (Zbn (by assumption)).trans (Zss h)
 ·exact (Zbn (by assumption)).trans (Ztu h)
 ·cases h
 ·split at h
  ·injection h with h; subst h; exact (Zbn (by assumption)).trans (Zn8 (by assumption))
  ·split at h
   ·injection h with h; subst h; exact (Zbn (by assumption)).trans (ZlO (by assumption))
   ·exact (Zbn (by assumption)).trans (Zbk h)
theorem ZtG {o : Oper} (h : ev1 P ρ o s = some (v, s')) : Up s s' := by
 unfold ev1 at h
 split at h
 all_goals first
  | exact Zrt h | exact Zpf h | exact ZsH h | exact ZpW h | exact ZsJ h | exact ZlN h | exact Zsq h | exact Zbk h
  | (injection h with h; injection h with h1 h2; subst h1 h2; first | exact Up.refl _ | exact up_add)
  | (cases h; done)
  | skip
 ·split at h
  ·split at h <;> (injection h with h; injection h with h1 h2; subst h1 h2; exact Up.refl _)
  ·cases h
 all_goals (repeat' (split at h))
 all_goals first
  | (cases h; done)
  | exact (Zbn (by assumption)).trans (Zsr h)
  | exact (Zbn (by assumption)).trans (ZsI h)
  | exact (Zbn (by assumption)).trans (Ztt h)
  | exact (Zbn (by assumption)).trans (ZtF h)
  | exact (Zbn (by assumption)).trans (Zsq h)
  | exact Zrt h
  | exact (Zbn (by assumption)).trans (ZsL h)
  | exact (Zbn (by assumption)).trans (ZpX h)
  | exact (Zbn (by assumption)).trans (Zbk h)
  | (injection h with h; subst h; first | exact (Zbn (by assumption)).trans (Zn8 (by assumption)) | exact (Zbn (by assumption)).trans (ZlO (by assumption)))
  | exact (ZpZ (by assumption)).trans (ZsM h)
  | exact (ZpY (by assumption)).trans (Zpg h)
  | exact (ZpY (by assumption)).trans (ZlN h)
  | (injection h with h; injection h with h1 h2; subst h1 h2; exact ZpZ (by assumption))
  | exact ZrK h
  | exact Zbk h
  | (injection h with h; injection h with h1 h2; subst h1 h2; first | exact Up.refl _ | exact up_add)
  | (injection h with h; subst h; first | exact ZsK (by assumption) | exact Zn8 (by assumption) | exact ZlO (by assumption) | exact ZrH (by assumption))
theorem Ztv {n : Nat} {args : Array Value} (h : ZlI n args s = some (v, s')) : Up s s' := by
 unfold ZlI at h
 split at h
 ·injection h with h; injection h with h1 h2; subst h1 h2; exact Up.refl _
 ·injection h with h; injection h with h1 h2; subst h1 h2; exact Up.refl _
 ·cases h
theorem Zst {kk : IntKind} {e : Nat} {args : Array Value} (h : Zd7 kk e args s = some (v, s')) : Up s s' := by
 unfold Zd7 at h
 repeat' (split at h)
 all_goals first
  | (cases h; done)
  | (injection h with h; injection h with h1 h2; subst h1 h2; first | exact Up.refl _ | exact ZbS (by assumption) | exact Zhu (by assumption) | exact (Zhu (by assumption)).trans (ZbS (by assumption)))
theorem Zru {o : Oper} {v1 : Value} {s1 : St} (h : ZpM o v s = (v1, s1)) : Up s s1 := by
 unfold ZpM at h
 split at h
 all_goals first
  | (generalize hq : s.tst _ = q at h; obtain ⟨b, s2⟩ := q; simp only [Prod.mk.injEq] at h; obtain ⟨rfl, rfl⟩ := h; exact Zhu hq)
  | (generalize hq : s.vst _ = q at h; obtain ⟨b, s2⟩ := q; simp only [Prod.mk.injEq] at h; obtain ⟨rfl, rfl⟩ := h; exact ZtE hq)
  | (simp only [Prod.mk.injEq] at h; obtain ⟨rfl, rfl⟩ := h; exact Up.refl _)
end
end Ev
end Go.Proofs.Ytpgbennpiihajaa
