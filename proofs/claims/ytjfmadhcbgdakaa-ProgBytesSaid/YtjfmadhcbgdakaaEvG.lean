/- The runner against the model: code and calls. -/
import Derived.Test.YtjfmadhcbgdakaaEvF
namespace Go.Proofs.Ytjfmadhcbgdakaa
open Go.RowKit
namespace Ev

/-! ### Numbers rise, and answers stay -/
theorem Zdk {a b : List (Bool × Bool)} (h : a <:+ b) (hb : ∀ p ∈ b, p.1 = p.2) : ∀ p ∈ a, p.1 = p.2 := fun p hp => hb p (h.subset hp)
structure Up (s s' : St) : Prop where
 n : s.n ≤ s'.n
 ob : s.ob <:+ s'.ob
 log : ∃ l, s'.wr = l ++ s.wr ∧ ∀ k, k ∉ l → ¬ (s.n ≤ k ∧ k < s'.n) → s'.h.get k = s.h.get k
theorem Up.refl (s : St) : Up s s := ⟨Nat.le_refl _, List.suffix_refl _, [], rfl, fun _ _ _ => rfl⟩
theorem Up.trans {a b c : St} (h : Up a b) (k : Up b c) : Up a c := by
 obtain ⟨l, h1, h2⟩ := h.log
 obtain ⟨m, k1, k2⟩ := k.log
 refine ⟨Nat.le_trans h.n k.n, h.ob.trans k.ob, m ++ l, by rw [k1, h1, List.append_assoc], fun j hj hn => ?_⟩
 have := h.n
 have := k.n
 rw [k2 j (fun e => hj (List.mem_append_left _ e)) (by omega), h2 j (fun e => hj (List.mem_append_right _ e)) (by omega)]
theorem ZhE {s s1 : St} {t b : Bool} (h : s.tst t = (b, s1)) : Up s s1 := by
 unfold St.tst at h
 split at h <;> (injection h with h1 h2; subst h1 h2)
 ·exact Up.refl _
 ·exact ⟨Nat.le_refl _, List.suffix_refl _, [], rfl, fun _ _ _ => rfl⟩
 ·exact ⟨Nat.le_refl _, List.suffix_cons _ _, [], rfl, fun _ _ _ => rfl⟩
theorem Zv9 {s s1 : St} {x y : Int} (h : s.vst x = (y, s1)) : Up s s1 := by
 unfold St.vst at h
 split at h <;> (injection h with h1 h2; subst h1 h2)
 ·exact Up.refl _
 ·exact ⟨Nat.le_refl _, List.suffix_refl _, [], rfl, fun _ _ _ => rfl⟩
 ·exact ⟨Nat.le_refl _, List.suffix_cons _ _, [], rfl, fun _ _ _ => rfl⟩
theorem Zcb {s s1 : St} {k o : Nat} {l : List Value} (h : Zdi s k o l = some s1) : Up s s1 := by
 unfold Zdi at h
 split at h
 ·replace h := ZI h
  obtain ⟨_, h⟩ := h
  injection h with h
  subst h
  refine ⟨Nat.le_refl _, List.suffix_refl _, [k], rfl, fun j hj _ => ?_⟩
  show (s.h.set k _).get j = _
  rw [Tr.get_set, Z8 (by simpa using hj)]
 ·cases h
section
variable {P : Program} {ρ : Operand → Value} {s s' : St} {v : Value}
theorem Zbq {o : Oper} (h : ZeJ P ρ o s = some (v, s')) : Up s s' := by
 unfold ZeJ at h
 replace h := (ZI h).2
 split at h
 ·replace h := (ZI h).2
  injection h with h; injection h with h1 h2; subst h1 h2; exact Up.refl _
 ·cases h
theorem up_add {c : List Value} {t : TypeId} : Up s (s.add c t) := ⟨Nat.le_succ _, List.suffix_refl _, [], rfl, fun j _ hn => by
 show (s.h.set s.n _).get j = _
 rw [Tr.get_set, Z8 (fun e => hn ⟨by omega, by show j < s.n + 1; omega⟩)]⟩
theorem up_turn {k : Nat} {c : List Value} {t : TypeId} : Up s (s.turn k c t) := ⟨Nat.le_succ _, List.suffix_refl _, [k], rfl, fun j hj hn => by
 show ((s.h.set k none).set s.n _).get j = _
 rw [Tr.get_set, Z8 (fun e => hn ⟨by omega, by show j < s.n + 1; omega⟩), Tr.get_set, Z8 (by simpa using hj)]⟩
theorem Zu1 {t tx : TypeId} {x y : Value} (h : Zdu P s t tx x y = some (v, s')) : Up s s' := by
 unfold Zdu at h
 try simp only [cond_eq_ite] at h
 repeat' (split at h)
 all_goals first
  | (cases h; done)
  | (injection h with h; injection h with h1 h2; subst h1 h2; first | exact Up.refl _ | exact up_add | exact up_turn | exact Zcb (by assumption))
  | exact Zbq h
theorem ZqN {t n : Nat} {ps : Array (Nat × Operand)} (h : ZfC P ρ t n ps s = some (v, s')) : Up s s' := by
 unfold ZfC at h
 try simp only [cond_eq_ite] at h
 repeat' (split at h)
 all_goals first
  | (cases h; done)
  | (injection h with h; injection h with h1 h2; subst h1 h2; first | exact Up.refl _ | exact up_add | exact up_turn | exact Zcb (by assumption))
  | exact Zbq h
theorem ZuU {t : Nat} {ps : Array (Nat × Operand)} (h : ZjZ P ρ t ps s = some (v, s')) : Up s s' := by
 unfold ZjZ at h
 try simp only [cond_eq_ite] at h
 repeat' (split at h)
 all_goals first
  | (cases h; done)
  | (injection h with h; injection h with h1 h2; subst h1 h2; first | exact Up.refl _ | exact up_add | exact up_turn | exact Zcb (by assumption))
  | exact Zbq h
theorem ZuV {t : Nat} {a x : Operand} (h : Zhg P ρ t a x s = some (v, s')) : Up s s' := by
 unfold Zhg at h
 try simp only [cond_eq_ite] at h
 repeat' (split at h)
 all_goals first
  | (cases h; done)
  | (injection h with h; injection h with h1 h2; subst h1 h2; first | exact Up.refl _ | exact up_add | exact up_turn | exact Zcb (by assumption))
  | exact Zbq h
theorem ZrW {t f : Nat} {x : Operand} (h : Zgg P ρ t x f s = some (v, s')) : Up s s' := by
 unfold Zgg at h
 try simp only [cond_eq_ite] at h
 repeat' (split at h)
 all_goals first
  | (cases h; done)
  | (injection h with h; injection h with h1 h2; subst h1 h2; first | exact Up.refl _ | exact up_add | exact up_turn | exact Zcb (by assumption))
  | exact Zbq h
theorem ZuW {t f : Nat} {x : Operand} (h : Zkb P ρ t x f s = some (v, s')) : Up s s' := by
 unfold Zkb at h
 try simp only [cond_eq_ite] at h
 repeat' (split at h)
 all_goals first
  | (cases h; done)
  | (injection h with h; injection h with h1 h2; subst h1 h2; first | exact Up.refl _ | exact up_add | exact up_turn | exact Zcb (by assumption))
  | exact Zbq h
theorem ZuX {t : Nat} {x ix : Operand} (h : Zkc P ρ t x ix s = some (v, s')) : Up s s' := by
 unfold Zkc at h
 try simp only [cond_eq_ite] at h
 repeat' (split at h)
 all_goals first
  | (cases h; done)
  | (injection h with h; injection h with h1 h2; subst h1 h2; first | exact Up.refl _ | exact up_add | exact up_turn | exact Zcb (by assumption))
  | exact Zbq h
theorem Zmt {t : Nat} {x ix : Operand} (h : Ze1 P ρ t x ix s = some (v, s')) : Up s s' := by
 unfold Ze1 at h
 try simp only [cond_eq_ite] at h
 repeat' (split at h)
 all_goals first
  | (cases h; done)
  | (injection h with h; injection h with h1 h2; subst h1 h2; first | exact Up.refl _ | exact up_add | exact up_turn | exact Zcb (by assumption))
  | exact Zbq h
theorem Zo7 {t : Nat} {x : Operand} {lo hi : Option Operand} (h : Zfz P ρ t x lo hi s = some (v, s')) : Up s s' := by
 unfold Zfz at h
 try simp only [cond_eq_ite] at h
 repeat' (split at h)
 all_goals first
  | (cases h; done)
  | (injection h with h; injection h with h1 h2; subst h1 h2; first | exact Up.refl _ | exact up_add | exact up_turn | exact Zcb (by assumption))
  | exact Zbq h
theorem ZrX {t : Nat} {l c : Operand} (h : Ze2 P ρ t l c s = some (v, s')) : Up s s' := by
 unfold Ze2 at h
 try simp only [cond_eq_ite] at h
 repeat' (split at h)
 all_goals first
  | (cases h; done)
  | (injection h with h; injection h with h1 h2; subst h1 h2; first | exact Up.refl _ | exact up_add | exact up_turn | exact Zcb (by assumption))
  | exact Zbq h
theorem Zpm {a b : TypeId} {x : Operand} (h : Zg0 P ρ a b x s = some (v, s')) : Up s s' := by
 unfold Zg0 at h
 try simp only [cond_eq_ite] at h
 repeat' (split at h)
 all_goals first
  | (cases h; done)
  | (injection h with h; injection h with h1 h2; subst h1 h2; first | exact Up.refl _ | exact up_add | exact up_turn | exact Zcb (by assumption))
  | exact Zbq h
theorem ZrY {o : Oper} {op : BinOp} {t : TypeId} {x y : Operand} (h : Zh2 P ρ o op t x y s = some (v, s')) : Up s s' := by
 unfold Zh2 at h
 split at h
 ·injection h with h; injection h with h1 h2; subst h1 h2; exact Up.refl _
 ·injection h with h; injection h with h1 h2; subst h1 h2; exact Up.refl _
 split at h
 ·rename_i r hr
  injection h with h; subst h
  exact Zbq hr
 ·split at h <;> first | (cases h; done) | (injection h with h; injection h with h1 h2; subst h1 h2; exact Up.refl _)
theorem Zbf {s s1 : St} {a : Option Za4} (h : s.nextW = (a, s1)) : Up s s1 := by
 unfold St.nextW at h
 split at h <;> (injection h with h1 h2; subst h1 h2; exact ⟨Nat.le_refl _, List.suffix_refl _, [], rfl, fun _ _ _ => rfl⟩)
theorem Zbg (q : Bool) : Up s (s.told q) := ⟨Nat.le_refl _, List.suffix_cons _ _, [], rfl, fun _ _ _ => rfl⟩
theorem up_putK {k : Nat} {c : List Value} {t : TypeId} : Up s (s.putK k c t) := ⟨Nat.le_refl _, List.suffix_refl _, [k], rfl, fun j hj _ => by
 show (s.h.set k _).get j = _
 rw [Tr.get_set, Z8 (by simpa using hj)]⟩
theorem Zu2 {t : Nat} {a x : Operand} {c : List Value} (h : Zi9 P ρ t a x c s = some (v, s')) : Up s s' := by
 unfold Zi9 at h
 try simp only [cond_eq_ite] at h
 repeat' (split at h)
 all_goals first
  | (cases h; done)
  | (injection h with h; injection h with h1 h2; subst h1 h2; exact up_putK.trans (Zbg _))
theorem Zvz {x y : Operand} (h : Zmn ρ x y s = some (v, s')) : Up s s' := by
 unfold Zmn at h
 split at h
 ·injection h with h; injection h with h1 h2; subst h1 h2; exact Zbg _
 ·cases h
theorem ZvA {op : BinOp} {x y : Operand} {n : Nat} (h : Zn6 ρ op x y n s = some (v, s')) : Up s s' := by
 unfold Zn6 at h
 split at h
 ·injection h with h; injection h with h1 h2; subst h1 h2; exact Zbg _
 ·injection h with h; injection h with h1 h2; subst h1 h2; exact Zbg _
 ·cases h
theorem Zu3 {x y : Operand} (h : Zpe ρ x y s = some (v, s')) : Up s s' := by
 unfold Zpe at h
 split at h
 ·injection h with h; injection h with h1 h2; subst h1 h2; exact Zbg _
 ·cases h
theorem Zu4 {t : Nat} {x : Operand} {lo hi : Option Operand} {l m : Nat} (h : ZiC P ρ t x lo hi l m s = some (v, s')) : Up s s' := by
 unfold ZiC at h
 try simp only [cond_eq_ite] at h
 repeat' (split at h)
 all_goals first
  | (cases h; done)
  | (injection h with h; injection h with h1 h2; subst h1 h2; exact ((Zbg _).trans (Zbg _)).trans (Zbg _))
theorem Ztk {a b : TypeId} {x : Operand} {ns : List Int} (h : Zg8 P ρ a b x ns s = some (v, s')) : Up s s' := by
 unfold Zg8 at h
 repeat' (split at h)
 all_goals first
  | (cases h; done)
  | (injection h with h; injection h with h1 h2; subst h1 h2; exact Zbg _)
theorem Zv0 {t : Nat} {x : Operand} {lo hi : Option Operand} {m : Nat} {c : List Value} (h : Zmm P ρ t x lo hi m c s = some (v, s')) : Up s s' := by
 unfold Zmm at h
 try simp only [cond_eq_ite] at h
 repeat' (split at h)
 all_goals first
  | (cases h; done)
  | (injection h with h; injection h with h1 h2; subst h1 h2; exact ((up_turn.trans (Zbg _)).trans (Zbg _)).trans (Zbg _))
theorem ZuY {t : Nat} {l c : Operand} {n cp : Nat} {cs : List Value} (h : Zke P ρ t l c n cp cs s = some (v, s')) : Up s s' := by
 unfold Zke at h
 try simp only [cond_eq_ite] at h
 repeat' (split at h)
 all_goals first
  | (cases h; done)
  | (injection h with h; injection h with h1 h2; subst h1 h2; exact ((up_add.trans (Zbg _)).trans (Zbg _)).trans (Zbg _))
theorem ZtR {t tx : TypeId} {x y : Value} {m : Nat} {l c : List Value} (h : Zka P s t tx x y m l c = some (v, s')) : Up s s' := by
 unfold Zka at h
 try simp only [cond_eq_ite] at h
 repeat' (split at h)
 all_goals first
  | (cases h; done)
  | (injection h with h; injection h with h1 h2; subst h1 h2; first | exact up_add.trans (Zbg _) | exact up_turn.trans (Zbg _))
theorem Ztl {t tx : TypeId} {x y : Value} {m : Nat} {l c : List Value} (h : ZiA P s t tx x y m l c = some (v, s')) : Up s s' := by
 unfold ZiA at h
 try simp only [cond_eq_ite] at h
 repeat' (split at h)
 all_goals first
  | (cases h; done)
  | (injection h with h; injection h with h1 h2; subst h1 h2; exact up_putK.trans (Zbg _))
theorem Ztm {t tx : TypeId} {x y : Value} (h : ZiB P s t tx x y = some (v, s')) : Up s s' := by
 unfold ZiB at h
 try simp only [cond_eq_ite] at h
 repeat' (split at h)
 all_goals first
  | (cases h; done)
  | (injection h with h; injection h with h1 h2; subst h1 h2; exact Zbg _)
theorem ZtS {kk : IntKind} {e : Nat} {args : Array Value} {z : Int} {c : List Value} (h : Zh8 kk e args z c s = some (v, s')) : Up s s' := by
 unfold Zh8 at h
 repeat' (split at h)
 all_goals first
  | (cases h; done)
  | (injection h with h; injection h with h1 h2; subst h1 h2; first | exact Zbg _ | exact up_putK.trans (Zbg _) | exact ((Zbg _).trans (ZhE (by assumption))) | exact (((Zbg _).trans (ZhE (by assumption))).trans up_putK).trans (Zbg _))
theorem ZtT {o : Oper} {c : Call} {b : Builtin} (h : Zh9 P ρ o c b s = some (v, s')) : Up s s' := by
 unfold Zh9 at h
 split at h
 ·split at h
  ·split at h
   ·exact (Zbf (by assumption)).trans (ZtR h)
   ·exact (Zbf (by assumption)).trans (Ztl h)
   ·exact (Zbf (by assumption)).trans (Ztm h)
   ·cases h
   ·exact (Zbf (by assumption)).trans (Zu1 h)
  ·cases h
 ·split at h
  ·split at h
   ·injection h with h; injection h with h1 h2; subst h1 h2; exact Up.refl _
   ·exact Zbq h
  ·cases h
 ·exact Zbq h
theorem ZrZ {s s1 : St} {a : Option Nat} (h : s.nextX = (a, s1)) : Up s s1 := by
 unfold St.nextX at h
 split at h <;> (injection h with h1 h2; subst h1 h2)
 ·exact Up.refl _
 ·exact ⟨Nat.le_refl _, List.suffix_refl _, [], rfl, fun _ _ _ => rfl⟩
theorem Zsa {s s1 : St} {a : Option (List Cell)} (h : s.nextL = (a, s1)) : Up s s1 := by
 unfold St.nextL at h
 split at h <;> (injection h with h1 h2; subst h1 h2)
 ·exact Up.refl _
 ·exact ⟨Nat.le_refl _, List.suffix_refl _, [], rfl, fun _ _ _ => rfl⟩
theorem up_told {s : St} {q : Bool} : Up s (s.told q) := ⟨Nat.le_refl _, List.suffix_cons _ _, [], rfl, fun _ _ _ => rfl⟩
theorem ZqO {t : Nat} {x ix : Operand} {i : Nat} (h : ZfD P ρ t x ix i s = some (v, s')) : Up s s' := by
 unfold ZfD at h
 repeat' (split at h)
 all_goals first
  | (cases h; done)
  | (injection h with h; injection h with h1 h2; subst h1 h2; exact up_told.trans up_told)
theorem ZuZ {t : Nat} {a : Operand} {l : List Cell} (h : Zkd P ρ t a l s = some (v, s')) : Up s s' := by
 unfold Zkd at h
 repeat' (split at h)
 all_goals first
  | (cases h; done)
  | (injection h with h; injection h with h1 h2; subst h1 h2; exact up_told)
theorem Zmu {t : Nat} {x : Operand} {lo hi : Option Operand} (h : ZiD P ρ t x lo hi s = some (v, s')) : Up s s' := by
 unfold ZiD at h
 split at h
 ·split at h
  ·replace h := (ZI h).2
   split at h
   ·injection h with h; injection h with h1 h2; subst h1 h2; exact ZhE (by assumption)
   ·cases h
  ·cases h
 ·cases h
theorem Zt7 {o : Oper} {t : Nat} {x : Operand} {lo hi : Option Operand} (h : ZtM P ρ o t x lo hi s = some (v, s')) : Up s s' := by
 unfold ZtM at h
 split at h
 ·exact (Zbf (by assumption)).trans (Zu4 h)
 ·exact (Zbf (by assumption)).trans (Zv0 h)
 ·cases h
 ·split at h
  ·injection h with h; subst h; exact (Zbf (by assumption)).trans (Zo7 (by assumption))
  ·split at h
   ·injection h with h; subst h; exact (Zbf (by assumption)).trans (Zmu (by assumption))
   ·exact (Zbf (by assumption)).trans (Zbq h)
theorem ZvB {o : Oper} (h : ev1 P ρ o s = some (v, s')) : Up s s' := by
 unfold ev1 at h
 split at h
 all_goals first
  | exact Zt7 h | exact ZqN h | exact ZuU h | exact ZrW h | exact ZuW h | exact Zmt h | exact ZrY h | exact Zu3 h | exact Zbq h
  | (injection h with h; injection h with h1 h2; subst h1 h2; first | exact Up.refl _ | exact up_add)
  | (cases h; done)
  | skip
 ·split at h
  ·split at h <;> (injection h with h; injection h with h1 h2; subst h1 h2; exact Up.refl _)
  ·cases h
 all_goals (repeat' (split at h))
 all_goals first
  | (cases h; done)
  | exact (Zbf (by assumption)).trans (Zu2 h)
  | exact (Zbf (by assumption)).trans (ZuV h)
  | exact (Zbf (by assumption)).trans (Zvz h)
  | exact (Zbf (by assumption)).trans (ZvA h)
  | exact (Zbf (by assumption)).trans (ZrY h)
  | exact Zu3 h
  | exact ZrY h
  | exact Zt7 h
  | exact (Zbf (by assumption)).trans (ZuY h)
  | exact (Zbf (by assumption)).trans (Ztk h)
  | exact (Zbf (by assumption)).trans (Zpm h)
  | exact (Zbf (by assumption)).trans (ZrX h)
  | exact (Zbf (by assumption)).trans (Zbq h)
  | (injection h with h; subst h; first | exact (Zbf (by assumption)).trans (Zo7 (by assumption)) | exact (Zbf (by assumption)).trans (Zmu (by assumption)))
  | exact (Zsa (by assumption)).trans (ZuZ h)
  | exact (ZrZ (by assumption)).trans (ZqO h)
  | exact (ZrZ (by assumption)).trans (Zmt h)
  | (injection h with h; injection h with h1 h2; subst h1 h2; exact Zsa (by assumption))
  | exact ZtT h
  | exact Zbq h
  | (injection h with h; injection h with h1 h2; subst h1 h2; first | exact Up.refl _ | exact up_add)
  | (injection h with h; subst h; first | exact ZuX (by assumption) | exact Zo7 (by assumption) | exact Zmu (by assumption) | exact Zpm (by assumption))
theorem Zv1 {n : Nat} {args : Array Value} (h : Zmo n args s = some (v, s')) : Up s s' := by
 unfold Zmo at h
 split at h
 ·injection h with h; injection h with h1 h2; subst h1 h2; exact Up.refl _
 ·injection h with h; injection h with h1 h2; subst h1 h2; exact Up.refl _
 ·cases h
theorem Zu5 {kk : IntKind} {e : Nat} {args : Array Value} (h : Zed kk e args s = some (v, s')) : Up s s' := by
 unfold Zed at h
 repeat' (split at h)
 all_goals first
  | (cases h; done)
  | (injection h with h; injection h with h1 h2; subst h1 h2; first | exact Up.refl _ | exact Zcb (by assumption) | exact ZhE (by assumption) | exact (ZhE (by assumption)).trans (Zcb (by assumption)))
theorem Zt8 {o : Oper} {v1 : Value} {s1 : St} (h : ZrM o v s = (v1, s1)) : Up s s1 := by
 unfold ZrM at h
 split at h
 all_goals first
  | (generalize hq : s.tst _ = q at h; obtain ⟨b, s2⟩ := q; simp only [Prod.mk.injEq] at h; obtain ⟨rfl, rfl⟩ := h; exact ZhE hq)
  | (generalize hq : s.vst _ = q at h; obtain ⟨b, s2⟩ := q; simp only [Prod.mk.injEq] at h; obtain ⟨rfl, rfl⟩ := h; exact Zv9 hq)
  | (simp only [Prod.mk.injEq] at h; obtain ⟨rfl, rfl⟩ := h; exact Up.refl _)
end
end Ev
end Go.Proofs.Ytjfmadhcbgdakaa
