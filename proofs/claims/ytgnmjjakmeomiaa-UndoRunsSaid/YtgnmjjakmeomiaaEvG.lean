/- The runner against the model: code and calls. -/
import Derived.Test.YtgnmjjakmeomiaaEvF
namespace Go.Proofs.Ytgnmjjakmeomiaa
open Go.RowKit
namespace Ev

/-! ### Numbers rise, and answers stay -/
theorem Zan {a b : List (Bool × Bool)} (h : a <:+ b) (hb : ∀ p ∈ b, p.1 = p.2) : ∀ p ∈ a, p.1 = p.2 := fun p hp => hb p (h.subset hp)
structure Up (s s' : St) : Prop where
 n : s.n ≤ s'.n
 ob : s.ob <:+ s'.ob
 log : ∃ l, s'.wr = l ++ s.wr ∧ ∀ k, k ∉ l → ¬ (s.n ≤ k ∧ k < s'.n) → s'.h.get k = s.h.get k
theorem Up.refl (s : St) : Up s s := ⟨Nat.le_refl _, List.suffix_refl _, [], rfl, fun _ _ _ => rfl⟩
theorem Up.trans {a b c : St} (h : Up a b) (k : Up b c) : Up a c := by
 obtain ⟨l, h1, h2⟩ := h.log
 obtain ⟨m, k1, k2⟩ := k.log
 refine ⟨Nat.le_trans h.n k.n, h.ob.trans k.ob, m ++ l, by rw [k1, h1, List.append_assoc], fun j hj hn => ?_⟩
 have := h.n
 have := k.n
 rw [k2 j (fun e => hj (List.mem_append_left _ e)) (by omega), h2 j (fun e => hj (List.mem_append_right _ e)) (by omega)]
theorem Zf1 {s s1 : St} {t b : Bool} (h : s.tst t = (b, s1)) : Up s s1 := by
 unfold St.tst at h
 split at h <;> (injection h with h1 h2; subst h1 h2)
 ·exact Up.refl _
 ·exact ⟨Nat.le_refl _, List.suffix_refl _, [], rfl, fun _ _ _ => rfl⟩
 ·exact ⟨Nat.le_refl _, List.suffix_cons _ _, [], rfl, fun _ _ _ => rfl⟩
theorem Zpj {s s1 : St} {x y : Int} (h : s.vst x = (y, s1)) : Up s s1 := by
 unfold St.vst at h
 split at h <;> (injection h with h1 h2; subst h1 h2)
 ·exact Up.refl _
 ·exact ⟨Nat.le_refl _, List.suffix_refl _, [], rfl, fun _ _ _ => rfl⟩
 ·exact ⟨Nat.le_refl _, List.suffix_cons _ _, [], rfl, fun _ _ _ => rfl⟩
theorem Zbn {s s1 : St} {k o : Nat} {l : List Value} (h : Zcj s k o l = some s1) : Up s s1 := by
 unfold Zcj at h
 split at h
 ·replace h := Zr h
  obtain ⟨_, h⟩ := h
  injection h with h
  subst h
  refine ⟨Nat.le_refl _, List.suffix_refl _, [k], rfl, fun j hj _ => ?_⟩
  show (s.h.set k _).get j = _
  rw [Tr.get_set, Zs (by simpa using hj)]
 ·cases h
section
variable {P : Program} {ρ : Operand → Value} {s s' : St} {v : Value}
theorem Za0 {o : Oper} (h : Zd6 P ρ o s = some (v, s')) : Up s s' := by
 unfold Zd6 at h
 replace h := (Zr h).2
 split at h
 ·replace h := (Zr h).2
  injection h with h; injection h with h1 h2; subst h1 h2; exact Up.refl _
 ·cases h
theorem up_add {c : List Value} {t : TypeId} : Up s (s.add c t) := ⟨Nat.le_succ _, List.suffix_refl _, [], rfl, fun j _ hn => by
 show (s.h.set s.n _).get j = _
 rw [Tr.get_set, Zs (fun e => hn ⟨by omega, by show j < s.n + 1; omega⟩)]⟩
theorem up_turn {k : Nat} {c : List Value} {t : TypeId} : Up s (s.turn k c t) := ⟨Nat.le_succ _, List.suffix_refl _, [k], rfl, fun j hj hn => by
 show ((s.h.set k none).set s.n _).get j = _
 rw [Tr.get_set, Zs (fun e => hn ⟨by omega, by show j < s.n + 1; omega⟩), Tr.get_set, Zs (by simpa using hj)]⟩
theorem ZnX {t tx : TypeId} {x y : Value} (h : Zc1 P s t tx x y = some (v, s')) : Up s s' := by
 unfold Zc1 at h
 try simp only [cond_eq_ite] at h
 repeat' (split at h)
 all_goals first
  | (cases h; done)
  | (injection h with h; injection h with h1 h2; subst h1 h2; first | exact Up.refl _ | exact up_add | exact up_turn | exact Zbn (by assumption))
  | exact Za0 h
theorem ZlC {t n : Nat} {ps : Array (Nat × Operand)} (h : Zel P ρ t n ps s = some (v, s')) : Up s s' := by
 unfold Zel at h
 try simp only [cond_eq_ite] at h
 repeat' (split at h)
 all_goals first
  | (cases h; done)
  | (injection h with h; injection h with h1 h2; subst h1 h2; first | exact Up.refl _ | exact up_add | exact up_turn | exact Zbn (by assumption))
  | exact Za0 h
theorem Zov {t : Nat} {ps : Array (Nat × Operand)} (h : Zhh P ρ t ps s = some (v, s')) : Up s s' := by
 unfold Zhh at h
 try simp only [cond_eq_ite] at h
 repeat' (split at h)
 all_goals first
  | (cases h; done)
  | (injection h with h; injection h with h1 h2; subst h1 h2; first | exact Up.refl _ | exact up_add | exact up_turn | exact Zbn (by assumption))
  | exact Za0 h
theorem Zow {t : Nat} {a x : Operand} (h : Zfh P ρ t a x s = some (v, s')) : Up s s' := by
 unfold Zfh at h
 try simp only [cond_eq_ite] at h
 repeat' (split at h)
 all_goals first
  | (cases h; done)
  | (injection h with h; injection h with h1 h2; subst h1 h2; first | exact Up.refl _ | exact up_add | exact up_turn | exact Zbn (by assumption))
  | exact Za0 h
theorem Zme {t f : Nat} {x : Operand} (h : Ze6 P ρ t x f s = some (v, s')) : Up s s' := by
 unfold Ze6 at h
 try simp only [cond_eq_ite] at h
 repeat' (split at h)
 all_goals first
  | (cases h; done)
  | (injection h with h; injection h with h1 h2; subst h1 h2; first | exact Up.refl _ | exact up_add | exact up_turn | exact Zbn (by assumption))
  | exact Za0 h
theorem Zox {t f : Nat} {x : Operand} (h : Zhj P ρ t x f s = some (v, s')) : Up s s' := by
 unfold Zhj at h
 try simp only [cond_eq_ite] at h
 repeat' (split at h)
 all_goals first
  | (cases h; done)
  | (injection h with h; injection h with h1 h2; subst h1 h2; first | exact Up.refl _ | exact up_add | exact up_turn | exact Zbn (by assumption))
  | exact Za0 h
theorem Zoy {t : Nat} {x ix : Operand} (h : Zhk P ρ t x ix s = some (v, s')) : Up s s' := by
 unfold Zhk at h
 try simp only [cond_eq_ite] at h
 repeat' (split at h)
 all_goals first
  | (cases h; done)
  | (injection h with h; injection h with h1 h2; subst h1 h2; first | exact Up.refl _ | exact up_add | exact up_turn | exact Zbn (by assumption))
  | exact Za0 h
theorem ZiE {t : Nat} {x ix : Operand} (h : Zdy P ρ t x ix s = some (v, s')) : Up s s' := by
 unfold Zdy at h
 try simp only [cond_eq_ite] at h
 repeat' (split at h)
 all_goals first
  | (cases h; done)
  | (injection h with h; injection h with h1 h2; subst h1 h2; first | exact Up.refl _ | exact up_add | exact up_turn | exact Zbn (by assumption))
  | exact Za0 h
theorem ZjW {t : Nat} {x : Operand} {lo hi : Option Operand} (h : ZdT P ρ t x lo hi s = some (v, s')) : Up s s' := by
 unfold ZdT at h
 try simp only [cond_eq_ite] at h
 repeat' (split at h)
 all_goals first
  | (cases h; done)
  | (injection h with h; injection h with h1 h2; subst h1 h2; first | exact Up.refl _ | exact up_add | exact up_turn | exact Zbn (by assumption))
  | exact Za0 h
theorem Zmf {t : Nat} {l c : Operand} (h : Zdz P ρ t l c s = some (v, s')) : Up s s' := by
 unfold Zdz at h
 try simp only [cond_eq_ite] at h
 repeat' (split at h)
 all_goals first
  | (cases h; done)
  | (injection h with h; injection h with h1 h2; subst h1 h2; first | exact Up.refl _ | exact up_add | exact up_turn | exact Zbn (by assumption))
  | exact Za0 h
theorem Zk7 {a b : TypeId} {x : Operand} (h : ZeK P ρ a b x s = some (v, s')) : Up s s' := by
 unfold ZeK at h
 try simp only [cond_eq_ite] at h
 repeat' (split at h)
 all_goals first
  | (cases h; done)
  | (injection h with h; injection h with h1 h2; subst h1 h2; first | exact Up.refl _ | exact up_add | exact up_turn | exact Zbn (by assumption))
  | exact Za0 h
theorem Zmg {o : Oper} {op : BinOp} {t : TypeId} {x y : Operand} (h : Zfr P ρ o op t x y s = some (v, s')) : Up s s' := by
 unfold Zfr at h
 split at h
 ·injection h with h; injection h with h1 h2; subst h1 h2; exact Up.refl _
 ·injection h with h; injection h with h1 h2; subst h1 h2; exact Up.refl _
 split at h
 ·rename_i r hr
  injection h with h; subst h
  exact Za0 hr
 ·split at h <;> first | (cases h; done) | (injection h with h; injection h with h1 h2; subst h1 h2; exact Up.refl _)
theorem Zas {s s1 : St} {a : Option Zbi} (h : s.nextW = (a, s1)) : Up s s1 := by
 unfold St.nextW at h
 split at h <;> (injection h with h1 h2; subst h1 h2; exact ⟨Nat.le_refl _, List.suffix_refl _, [], rfl, fun _ _ _ => rfl⟩)
theorem Zat (q : Bool) : Up s (s.told q) := ⟨Nat.le_refl _, List.suffix_cons _ _, [], rfl, fun _ _ _ => rfl⟩
theorem up_putK {k : Nat} {c : List Value} {t : TypeId} : Up s (s.putK k c t) := ⟨Nat.le_refl _, List.suffix_refl _, [k], rfl, fun j hj _ => by
 show (s.h.set k _).get j = _
 rw [Tr.get_set, Zs (by simpa using hj)]⟩
theorem ZnY {t : Nat} {a x : Operand} {c : List Value} (h : Zgr P ρ t a x c s = some (v, s')) : Up s s' := by
 unfold Zgr at h
 try simp only [cond_eq_ite] at h
 repeat' (split at h)
 all_goals first
  | (cases h; done)
  | (injection h with h; injection h with h1 h2; subst h1 h2; exact up_putK.trans (Zat _))
theorem ZoW {x y : Operand} (h : Zi8 ρ x y s = some (v, s')) : Up s s' := by
 unfold Zi8 at h
 split at h
 ·injection h with h; injection h with h1 h2; subst h1 h2; exact Zat _
 ·cases h
theorem Zpk {op : BinOp} {x y : Operand} {n : Nat} (h : Zjp ρ op x y n s = some (v, s')) : Up s s' := by
 unfold Zjp at h
 split at h
 ·injection h with h; injection h with h1 h2; subst h1 h2; exact Zat _
 ·injection h with h; injection h with h1 h2; subst h1 h2; exact Zat _
 ·cases h
theorem ZnZ {x y : Operand} (h : Zkz ρ x y s = some (v, s')) : Up s s' := by
 unfold Zkz at h
 split at h
 ·injection h with h; injection h with h1 h2; subst h1 h2; exact Zat _
 ·cases h
theorem Zoa {t : Nat} {x : Operand} {lo hi : Option Operand} {l m : Nat} (h : Zgu P ρ t x lo hi l m s = some (v, s')) : Up s s' := by
 unfold Zgu at h
 try simp only [cond_eq_ite] at h
 repeat' (split at h)
 all_goals first
  | (cases h; done)
  | (injection h with h; injection h with h1 h2; subst h1 h2; exact ((Zat _).trans (Zat _)).trans (Zat _))
theorem ZmO {a b : TypeId} {x : Operand} {ns : List Int} (h : ZeO P ρ a b x ns s = some (v, s')) : Up s s' := by
 unfold ZeO at h
 repeat' (split at h)
 all_goals first
  | (cases h; done)
  | (injection h with h; injection h with h1 h2; subst h1 h2; exact Zat _)
theorem ZoX {t : Nat} {x : Operand} {lo hi : Option Operand} {m : Nat} {c : List Value} (h : Zi7 P ρ t x lo hi m c s = some (v, s')) : Up s s' := by
 unfold Zi7 at h
 try simp only [cond_eq_ite] at h
 repeat' (split at h)
 all_goals first
  | (cases h; done)
  | (injection h with h; injection h with h1 h2; subst h1 h2; exact ((up_turn.trans (Zat _)).trans (Zat _)).trans (Zat _))
theorem Zoz {t : Nat} {l c : Operand} {n cp : Nat} {cs : List Value} (h : Zhm P ρ t l c n cp cs s = some (v, s')) : Up s s' := by
 unfold Zhm at h
 try simp only [cond_eq_ite] at h
 repeat' (split at h)
 all_goals first
  | (cases h; done)
  | (injection h with h; injection h with h1 h2; subst h1 h2; exact ((up_add.trans (Zat _)).trans (Zat _)).trans (Zat _))
theorem Zn0 {t tx : TypeId} {x y : Value} {m : Nat} {l c : List Value} (h : Zhi P s t tx x y m l c = some (v, s')) : Up s s' := by
 unfold Zhi at h
 try simp only [cond_eq_ite] at h
 repeat' (split at h)
 all_goals first
  | (cases h; done)
  | (injection h with h; injection h with h1 h2; subst h1 h2; first | exact up_add.trans (Zat _) | exact up_turn.trans (Zat _))
theorem ZmP {t tx : TypeId} {x y : Value} {m : Nat} {l c : List Value} (h : Zgs P s t tx x y m l c = some (v, s')) : Up s s' := by
 unfold Zgs at h
 try simp only [cond_eq_ite] at h
 repeat' (split at h)
 all_goals first
  | (cases h; done)
  | (injection h with h; injection h with h1 h2; subst h1 h2; exact up_putK.trans (Zat _))
theorem ZmQ {t tx : TypeId} {x y : Value} (h : Zgt P s t tx x y = some (v, s')) : Up s s' := by
 unfold Zgt at h
 try simp only [cond_eq_ite] at h
 repeat' (split at h)
 all_goals first
  | (cases h; done)
  | (injection h with h; injection h with h1 h2; subst h1 h2; exact Zat _)
theorem Zn1 {kk : IntKind} {e : Nat} {args : Array Value} {z : Int} {c : List Value} (h : Zfv kk e args z c s = some (v, s')) : Up s s' := by
 unfold Zfv at h
 repeat' (split at h)
 all_goals first
  | (cases h; done)
  | (injection h with h; injection h with h1 h2; subst h1 h2; first | exact Zat _ | exact up_putK.trans (Zat _) | exact ((Zat _).trans (Zf1 (by assumption))) | exact (((Zat _).trans (Zf1 (by assumption))).trans up_putK).trans (Zat _))
theorem Zn2 {o : Oper} {c : Call} {b : Builtin} (h : Zfw P ρ o c b s = some (v, s')) : Up s s' := by
 unfold Zfw at h
 split at h
 ·split at h
  ·split at h
   ·exact (Zas (by assumption)).trans (Zn0 h)
   ·exact (Zas (by assumption)).trans (ZmP h)
   ·exact (Zas (by assumption)).trans (ZmQ h)
   ·cases h
   ·exact (Zas (by assumption)).trans (ZnX h)
  ·cases h
 ·split at h
  ·split at h
   ·injection h with h; injection h with h1 h2; subst h1 h2; exact Up.refl _
   ·exact Za0 h
  ·cases h
 ·exact Za0 h
theorem Zmh {s s1 : St} {a : Option Nat} (h : s.nextX = (a, s1)) : Up s s1 := by
 unfold St.nextX at h
 split at h <;> (injection h with h1 h2; subst h1 h2)
 ·exact Up.refl _
 ·exact ⟨Nat.le_refl _, List.suffix_refl _, [], rfl, fun _ _ _ => rfl⟩
theorem Zmi {s s1 : St} {a : Option (List Cell)} (h : s.nextL = (a, s1)) : Up s s1 := by
 unfold St.nextL at h
 split at h <;> (injection h with h1 h2; subst h1 h2)
 ·exact Up.refl _
 ·exact ⟨Nat.le_refl _, List.suffix_refl _, [], rfl, fun _ _ _ => rfl⟩
theorem up_told {s : St} {q : Bool} : Up s (s.told q) := ⟨Nat.le_refl _, List.suffix_cons _ _, [], rfl, fun _ _ _ => rfl⟩
theorem ZlD {t : Nat} {x ix : Operand} {i : Nat} (h : Zem P ρ t x ix i s = some (v, s')) : Up s s' := by
 unfold Zem at h
 repeat' (split at h)
 all_goals first
  | (cases h; done)
  | (injection h with h; injection h with h1 h2; subst h1 h2; exact up_told.trans up_told)
theorem Zo0 {t : Nat} {a : Operand} {l : List Cell} (h : Zhl P ρ t a l s = some (v, s')) : Up s s' := by
 unfold Zhl at h
 repeat' (split at h)
 all_goals first
  | (cases h; done)
  | (injection h with h; injection h with h1 h2; subst h1 h2; exact up_told)
theorem ZiF {t : Nat} {x : Operand} {lo hi : Option Operand} (h : Zgv P ρ t x lo hi s = some (v, s')) : Up s s' := by
 unfold Zgv at h
 split at h
 ·split at h
  ·replace h := (Zr h).2
   split at h
   ·injection h with h; injection h with h1 h2; subst h1 h2; exact Zf1 (by assumption)
   ·cases h
  ·cases h
 ·cases h
theorem Znd {o : Oper} {t : Nat} {x : Operand} {lo hi : Option Operand} (h : Znv P ρ o t x lo hi s = some (v, s')) : Up s s' := by
 unfold Znv at h
 split at h
 ·exact (Zas (by assumption)).trans (Zoa h)
 ·exact (Zas (by assumption)).trans (ZoX h)
 ·cases h
 ·split at h
  ·injection h with h; subst h; exact (Zas (by assumption)).trans (ZjW (by assumption))
  ·split at h
   ·injection h with h; subst h; exact (Zas (by assumption)).trans (ZiF (by assumption))
   ·exact (Zas (by assumption)).trans (Za0 h)
theorem Zpl {o : Oper} (h : ev1 P ρ o s = some (v, s')) : Up s s' := by
 unfold ev1 at h
 split at h
 all_goals first
  | exact Znd h | exact ZlC h | exact Zov h | exact Zme h | exact Zox h | exact ZiE h | exact Zmg h | exact ZnZ h | exact Za0 h
  | (injection h with h; injection h with h1 h2; subst h1 h2; first | exact Up.refl _ | exact up_add)
  | (cases h; done)
  | skip
 ·split at h
  ·split at h <;> (injection h with h; injection h with h1 h2; subst h1 h2; exact Up.refl _)
  ·cases h
 all_goals (repeat' (split at h))
 all_goals first
  | (cases h; done)
  | exact (Zas (by assumption)).trans (ZnY h)
  | exact (Zas (by assumption)).trans (Zow h)
  | exact (Zas (by assumption)).trans (ZoW h)
  | exact (Zas (by assumption)).trans (Zpk h)
  | exact (Zas (by assumption)).trans (Zmg h)
  | exact ZnZ h
  | exact Zmg h
  | exact Znd h
  | exact (Zas (by assumption)).trans (Zoz h)
  | exact (Zas (by assumption)).trans (ZmO h)
  | exact (Zas (by assumption)).trans (Zk7 h)
  | exact (Zas (by assumption)).trans (Zmf h)
  | exact (Zas (by assumption)).trans (Za0 h)
  | (injection h with h; subst h; first | exact (Zas (by assumption)).trans (ZjW (by assumption)) | exact (Zas (by assumption)).trans (ZiF (by assumption)))
  | exact (Zmi (by assumption)).trans (Zo0 h)
  | exact (Zmh (by assumption)).trans (ZlD h)
  | exact (Zmh (by assumption)).trans (ZiE h)
  | (injection h with h; injection h with h1 h2; subst h1 h2; exact Zmi (by assumption))
  | exact Zn2 h
  | exact Za0 h
  | (injection h with h; injection h with h1 h2; subst h1 h2; first | exact Up.refl _ | exact up_add)
  | (injection h with h; subst h; first | exact Zoy (by assumption) | exact ZjW (by assumption) | exact ZiF (by assumption) | exact Zk7 (by assumption))
theorem ZoY {n : Nat} {args : Array Value} (h : Zi9 n args s = some (v, s')) : Up s s' := by
 unfold Zi9 at h
 split at h
 ·injection h with h; injection h with h1 h2; subst h1 h2; exact Up.refl _
 ·injection h with h; injection h with h1 h2; subst h1 h2; exact Up.refl _
 ·cases h
theorem Zob {kk : IntKind} {e : Nat} {args : Array Value} (h : Zde kk e args s = some (v, s')) : Up s s' := by
 unfold Zde at h
 repeat' (split at h)
 all_goals first
  | (cases h; done)
  | (injection h with h; injection h with h1 h2; subst h1 h2; first | exact Up.refl _ | exact Zbn (by assumption) | exact Zf1 (by assumption) | exact (Zf1 (by assumption)).trans (Zbn (by assumption)))
theorem Zne {o : Oper} {v1 : Value} {s1 : St} (h : ZlU o v s = (v1, s1)) : Up s s1 := by
 unfold ZlU at h
 split at h
 all_goals first
  | (generalize hq : s.tst _ = q at h; obtain ⟨b, s2⟩ := q; simp only [Prod.mk.injEq] at h; obtain ⟨rfl, rfl⟩ := h; exact Zf1 hq)
  | (generalize hq : s.vst _ = q at h; obtain ⟨b, s2⟩ := q; simp only [Prod.mk.injEq] at h; obtain ⟨rfl, rfl⟩ := h; exact Zpj hq)
  | (simp only [Prod.mk.injEq] at h; obtain ⟨rfl, rfl⟩ := h; exact Up.refl _)
end
end Ev
end Go.Proofs.Ytgnmjjakmeomiaa
