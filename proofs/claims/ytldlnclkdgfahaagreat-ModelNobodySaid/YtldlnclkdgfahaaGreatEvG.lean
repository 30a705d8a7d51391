/- The runner against the model: code and calls. -/
import Derived.Test.YtldlnclkdgfahaaGreatEvF
namespace Go.Proofs.YtldlnclkdgfahaaGreat
open Go.RowKit
namespace Ev

/-! ### Numbers rise, and answers stay -/
theorem suffix_ob {a b : List (Bool × Bool)} (h : a <:+ b) (hb : ∀ p ∈ b, p.1 = p.2) : ∀ p ∈ a, p.1 = p.2 := fun p hp => hb p (h.subset hp)
/-- From s to s': numbers rise, answers stay, and what is not told as written stays. -/
structure Up (s s' : St) : Prop where
  n : s.n ≤ s'.n
  ob : s.ob <:+ s'.ob
  log : ∃ l, s'.wr = l ++ s.wr ∧ ∀ k, k ∉ l → ¬ (s.n ≤ k ∧ k < s'.n) → s'.h.get k = s.h.get k
theorem Up.refl (s : St) : Up s s := ⟨Nat.le_refl _, List.suffix_refl _, [], rfl, fun _ _ _ => rfl⟩
theorem Up.trans {a b c : St} (h : Up a b) (k : Up b c) : Up a c := by
  obtain ⟨l, h1, h2⟩ := h.log
  obtain ⟨m, k1, k2⟩ := k.log
  refine ⟨Nat.le_trans h.n k.n, h.ob.trans k.ob, m ++ l, by rw [k1, h1, List.append_assoc], fun j hj hn => ?_⟩
  have := h.n
  have := k.n
  rw [k2 j (fun e => hj (List.mem_append_left _ e)) (by omega), h2 j (fun e => hj (List.mem_append_right _ e)) (by omega)]
theorem up_tst {s s1 : St} {t b : Bool} (h : s.tst t = (b, s1)) : Up s s1 := by
  unfold St.tst at h
  split at h <;> (injection h with h1 h2; subst h1 h2)
  · exact Up.refl _
  · exact ⟨Nat.le_refl _, List.suffix_refl _, [], rfl, fun _ _ _ => rfl⟩
  · exact ⟨Nat.le_refl _, List.suffix_cons _ _, [], rfl, fun _ _ _ => rfl⟩
theorem up_vst {s s1 : St} {x y : Int} (h : s.vst x = (y, s1)) : Up s s1 := by
  unfold St.vst at h
  split at h <;> (injection h with h1 h2; subst h1 h2)
  · exact Up.refl _
  · exact ⟨Nat.le_refl _, List.suffix_refl _, [], rfl, fun _ _ _ => rfl⟩
  · exact ⟨Nat.le_refl _, List.suffix_cons _ _, [], rfl, fun _ _ _ => rfl⟩
theorem up_writeAt {s s1 : St} {k o : Nat} {l : List Value} (h : writeAt s k o l = some s1) : Up s s1 := by
  unfold writeAt at h
  split at h
  · replace h := bif_some h
    obtain ⟨_, h⟩ := h
    injection h with h
    subst h
    refine ⟨Nat.le_refl _, List.suffix_refl _, [k], rfl, fun j hj _ => ?_⟩
    show (s.h.set k _).get j = _
    rw [Tr.get_set, upd_other (by simpa using hj)]
  · cases h
section
variable {P : Program} {ρ : Operand → Value} {s s' : St} {v : Value}
theorem up_general {o : Oper} (h : general P ρ o s = some (v, s')) : Up s s' := by
  unfold general at h
  replace h := (bif_some h).2
  split at h
  · replace h := (bif_some h).2
    injection h with h; injection h with h1 h2; subst h1 h2; exact Up.refl _
  · cases h
theorem up_add {c : List Value} {t : TypeId} : Up s (s.add c t) := ⟨Nat.le_succ _, List.suffix_refl _, [], rfl, fun j _ hn => by
  show (s.h.set s.n _).get j = _
  rw [Tr.get_set, upd_other (fun e => hn ⟨by omega, by show j < s.n + 1; omega⟩)]⟩
theorem up_turn {k : Nat} {c : List Value} {t : TypeId} : Up s (s.turn k c t) := ⟨Nat.le_succ _, List.suffix_refl _, [k], rfl, fun j hj hn => by
  show ((s.h.set k none).set s.n _).get j = _
  rw [Tr.get_set, upd_other (fun e => hn ⟨by omega, by show j < s.n + 1; omega⟩), Tr.get_set, upd_other (by simpa using hj)]⟩
theorem up_append {t tx : TypeId} {x y : Value} (h : appendTo P s t tx x y = some (v, s')) : Up s s' := by
  unfold appendTo at h
  try simp only [cond_eq_ite] at h
  repeat' (split at h)
  all_goals first
    | (cases h; done)
    | (injection h with h; injection h with h1 h2; subst h1 h2; first | exact Up.refl _ | exact up_add | exact up_turn | exact up_writeAt (by assumption))
    | exact up_general h
theorem up_buildSlice {t n : Nat} {ps : Array (Nat × Operand)} (h : evBuildSlice P ρ t n ps s = some (v, s')) : Up s s' := by
  unfold evBuildSlice at h
  try simp only [cond_eq_ite] at h
  repeat' (split at h)
  all_goals first
    | (cases h; done)
    | (injection h with h; injection h with h1 h2; subst h1 h2; first | exact Up.refl _ | exact up_add | exact up_turn | exact up_writeAt (by assumption))
    | exact up_general h
theorem up_build {t : Nat} {ps : Array (Nat × Operand)} (h : evBuild P ρ t ps s = some (v, s')) : Up s s' := by
  unfold evBuild at h
  try simp only [cond_eq_ite] at h
  repeat' (split at h)
  all_goals first
    | (cases h; done)
    | (injection h with h; injection h with h1 h2; subst h1 h2; first | exact Up.refl _ | exact up_add | exact up_turn | exact up_writeAt (by assumption))
    | exact up_general h
theorem up_store {t : Nat} {a x : Operand} (h : evStore P ρ t a x s = some (v, s')) : Up s s' := by
  unfold evStore at h
  try simp only [cond_eq_ite] at h
  repeat' (split at h)
  all_goals first
    | (cases h; done)
    | (injection h with h; injection h with h1 h2; subst h1 h2; first | exact Up.refl _ | exact up_add | exact up_turn | exact up_writeAt (by assumption))
    | exact up_general h
theorem up_fieldAddr {t f : Nat} {x : Operand} (h : evFieldAddr P ρ t x f s = some (v, s')) : Up s s' := by
  unfold evFieldAddr at h
  try simp only [cond_eq_ite] at h
  repeat' (split at h)
  all_goals first
    | (cases h; done)
    | (injection h with h; injection h with h1 h2; subst h1 h2; first | exact Up.refl _ | exact up_add | exact up_turn | exact up_writeAt (by assumption))
    | exact up_general h
theorem up_field {t f : Nat} {x : Operand} (h : evField P ρ t x f s = some (v, s')) : Up s s' := by
  unfold evField at h
  try simp only [cond_eq_ite] at h
  repeat' (split at h)
  all_goals first
    | (cases h; done)
    | (injection h with h; injection h with h1 h2; subst h1 h2; first | exact Up.refl _ | exact up_add | exact up_turn | exact up_writeAt (by assumption))
    | exact up_general h
theorem up_index {t : Nat} {x ix : Operand} (h : evIndex P ρ t x ix s = some (v, s')) : Up s s' := by
  unfold evIndex at h
  try simp only [cond_eq_ite] at h
  repeat' (split at h)
  all_goals first
    | (cases h; done)
    | (injection h with h; injection h with h1 h2; subst h1 h2; first | exact Up.refl _ | exact up_add | exact up_turn | exact up_writeAt (by assumption))
    | exact up_general h
theorem up_indexAddr {t : Nat} {x ix : Operand} (h : evIndexAddr P ρ t x ix s = some (v, s')) : Up s s' := by
  unfold evIndexAddr at h
  try simp only [cond_eq_ite] at h
  repeat' (split at h)
  all_goals first
    | (cases h; done)
    | (injection h with h; injection h with h1 h2; subst h1 h2; first | exact Up.refl _ | exact up_add | exact up_turn | exact up_writeAt (by assumption))
    | exact up_general h
theorem up_slice {t : Nat} {x : Operand} {lo hi : Option Operand} (h : evSlice P ρ t x lo hi s = some (v, s')) : Up s s' := by
  unfold evSlice at h
  try simp only [cond_eq_ite] at h
  repeat' (split at h)
  all_goals first
    | (cases h; done)
    | (injection h with h; injection h with h1 h2; subst h1 h2; first | exact Up.refl _ | exact up_add | exact up_turn | exact up_writeAt (by assumption))
    | exact up_general h
theorem up_makeSlice {t : Nat} {l c : Operand} (h : evMakeSlice P ρ t l c s = some (v, s')) : Up s s' := by
  unfold evMakeSlice at h
  try simp only [cond_eq_ite] at h
  repeat' (split at h)
  all_goals first
    | (cases h; done)
    | (injection h with h; injection h with h1 h2; subst h1 h2; first | exact Up.refl _ | exact up_add | exact up_turn | exact up_writeAt (by assumption))
    | exact up_general h
theorem up_convert {a b : TypeId} {x : Operand} (h : evConvert P ρ a b x s = some (v, s')) : Up s s' := by
  unfold evConvert at h
  try simp only [cond_eq_ite] at h
  repeat' (split at h)
  all_goals first
    | (cases h; done)
    | (injection h with h; injection h with h1 h2; subst h1 h2; first | exact Up.refl _ | exact up_add | exact up_turn | exact up_writeAt (by assumption))
    | exact up_general h
theorem up_bin {o : Oper} {op : BinOp} {t : TypeId} {x y : Operand} (h : evBin P ρ o op t x y s = some (v, s')) : Up s s' := by
  unfold evBin at h
  split at h
  · injection h with h; injection h with h1 h2; subst h1 h2; exact Up.refl _
  · injection h with h; injection h with h1 h2; subst h1 h2; exact Up.refl _
  split at h
  · rename_i r hr
    injection h with h; subst h
    exact up_general hr
  · split at h <;> first | (cases h; done) | (injection h with h; injection h with h1 h2; subst h1 h2; exact Up.refl _)
theorem up_nextW {s s1 : St} {a : Option Told} (h : s.nextW = (a, s1)) : Up s s1 := by
  unfold St.nextW at h
  split at h <;> (injection h with h1 h2; subst h1 h2; exact ⟨Nat.le_refl _, List.suffix_refl _, [], rfl, fun _ _ _ => rfl⟩)
theorem up_toldW (q : Bool) : Up s (s.told q) := ⟨Nat.le_refl _, List.suffix_cons _ _, [], rfl, fun _ _ _ => rfl⟩
theorem up_putK {k : Nat} {c : List Value} {t : TypeId} : Up s (s.putK k c t) := ⟨Nat.le_refl _, List.suffix_refl _, [k], rfl, fun j hj _ => by
  show (s.h.set k _).get j = _
  rw [Tr.get_set, upd_other (by simpa using hj)]⟩
theorem up_storeT {t : Nat} {a x : Operand} {c : List Value} (h : evStoreT P ρ t a x c s = some (v, s')) : Up s s' := by
  unfold evStoreT at h
  try simp only [cond_eq_ite] at h
  repeat' (split at h)
  all_goals first
    | (cases h; done)
    | (injection h with h; injection h with h1 h2; subst h1 h2; exact up_putK.trans (up_toldW _))
theorem up_remT {x y : Operand} (h : evRemT ρ x y s = some (v, s')) : Up s s' := by
  unfold evRemT at h
  split at h
  · injection h with h; injection h with h1 h2; subst h1 h2; exact up_toldW _
  · cases h
theorem up_shT {op : BinOp} {x y : Operand} {n : Nat} (h : evShT ρ op x y n s = some (v, s')) : Up s s' := by
  unfold evShT at h
  split at h
  · injection h with h; injection h with h1 h2; subst h1 h2; exact up_toldW _
  · injection h with h; injection h with h1 h2; subst h1 h2; exact up_toldW _
  · cases h
theorem up_cat {x y : Operand} (h : evCat ρ x y s = some (v, s')) : Up s s' := by
  unfold evCat at h
  split at h
  · injection h with h; injection h with h1 h2; subst h1 h2; exact up_toldW _
  · cases h
theorem up_sliceT {t : Nat} {x : Operand} {lo hi : Option Operand} {l m : Nat} (h : evSliceT P ρ t x lo hi l m s = some (v, s')) : Up s s' := by
  unfold evSliceT at h
  try simp only [cond_eq_ite] at h
  repeat' (split at h)
  all_goals first
    | (cases h; done)
    | (injection h with h; injection h with h1 h2; subst h1 h2; exact ((up_toldW _).trans (up_toldW _)).trans (up_toldW _))
theorem up_convertT {a b : TypeId} {x : Operand} {ns : List Int} (h : evConvertT P ρ a b x ns s = some (v, s')) : Up s s' := by
  unfold evConvertT at h
  repeat' (split at h)
  all_goals first
    | (cases h; done)
    | (injection h with h; injection h with h1 h2; subst h1 h2; exact up_toldW _)
theorem up_cutT {t : Nat} {x : Operand} {lo hi : Option Operand} {m : Nat} {c : List Value} (h : evCutT P ρ t x lo hi m c s = some (v, s')) : Up s s' := by
  unfold evCutT at h
  try simp only [cond_eq_ite] at h
  repeat' (split at h)
  all_goals first
    | (cases h; done)
    | (injection h with h; injection h with h1 h2; subst h1 h2; exact ((up_turn.trans (up_toldW _)).trans (up_toldW _)).trans (up_toldW _))
theorem up_makeT {t : Nat} {l c : Operand} {n cp : Nat} {cs : List Value} (h : evMakeT P ρ t l c n cp cs s = some (v, s')) : Up s s' := by
  unfold evMakeT at h
  try simp only [cond_eq_ite] at h
  repeat' (split at h)
  all_goals first
    | (cases h; done)
    | (injection h with h; injection h with h1 h2; subst h1 h2; exact ((up_add.trans (up_toldW _)).trans (up_toldW _)).trans (up_toldW _))
theorem up_appendT {t tx : TypeId} {x y : Value} {m : Nat} {l c : List Value} (h : appendT P s t tx x y m l c = some (v, s')) : Up s s' := by
  unfold appendT at h
  try simp only [cond_eq_ite] at h
  repeat' (split at h)
  all_goals first
    | (cases h; done)
    | (injection h with h; injection h with h1 h2; subst h1 h2; first | exact up_add.trans (up_toldW _) | exact up_turn.trans (up_toldW _))
theorem up_appendTI {t tx : TypeId} {x y : Value} {m : Nat} {l c : List Value} (h : appendTI P s t tx x y m l c = some (v, s')) : Up s s' := by
  unfold appendTI at h
  try simp only [cond_eq_ite] at h
  repeat' (split at h)
  all_goals first
    | (cases h; done)
    | (injection h with h; injection h with h1 h2; subst h1 h2; exact up_putK.trans (up_toldW _))
theorem up_appendT0 {t tx : TypeId} {x y : Value} (h : appendT0 P s t tx x y = some (v, s')) : Up s s' := by
  unfold appendT0 at h
  try simp only [cond_eq_ite] at h
  repeat' (split at h)
  all_goals first
    | (cases h; done)
    | (injection h with h; injection h with h1 h2; subst h1 h2; exact up_toldW _)
theorem up_atomicT {kk : IntKind} {e : Nat} {args : Array Value} {z : Int} {c : List Value} (h : evAtomicT kk e args z c s = some (v, s')) : Up s s' := by
  unfold evAtomicT at h
  repeat' (split at h)
  all_goals first
    | (cases h; done)
    | (injection h with h; injection h with h1 h2; subst h1 h2; first | exact up_toldW _ | exact up_putK.trans (up_toldW _) | exact ((up_toldW _).trans (up_tst (by assumption))) | exact (((up_toldW _).trans (up_tst (by assumption))).trans up_putK).trans (up_toldW _))
theorem up_addM {O : Obj} : Up s (s.addM O) := ⟨Nat.le_succ _, List.suffix_refl _, [], rfl, fun j _ hn => by
  show (s.h.set s.n _).get j = _
  rw [Tr.get_set, upd_other (by intro e; subst e; exact hn ⟨Nat.le_refl _, Nat.lt_succ_self _⟩)]⟩
theorem up_putM {k : Nat} {O : Obj} : Up s (s.putM k O) := ⟨Nat.le_refl _, List.suffix_refl _, [k], rfl, fun j hj _ => by
  show (s.h.set k _).get j = _
  rw [Tr.get_set, upd_other (by intro e; subst e; exact hj (List.mem_singleton.2 rfl))]⟩
theorem up_clear {t : TypeId} {x : Value} (h : evClear P s t x = some (v, s')) : Up s s' := by
  unfold evClear at h
  repeat' (split at h)
  all_goals first
    | (cases h; done)
    | (injection h with h; injection h with h1 h2; subst h1 h2; first | exact Up.refl _ | exact up_putM)
theorem up_delete {t : TypeId} {x k : Value} (h : evDelete P s t x k = some (v, s')) : Up s s' := by
  unfold evDelete at h
  repeat' (split at h)
  all_goals first
    | (cases h; done)
    | skip
  all_goals (replace h := (bif_some h).2)
  all_goals first
    | (cases h; done)
    | (injection h with h; injection h with h1 h2; subst h1 h2; exact up_putM)
theorem up_makeMap {t : TypeId} {r : Option Operand} (h : evMakeMap P ρ t r s = some (v, s')) : Up s s' := by
  unfold evMakeMap at h
  repeat' (split at h)
  all_goals first
    | (cases h; done)
    | (injection h with h; injection h with h1 h2; subst h1 h2; exact up_addM)
theorem up_lookup {t : TypeId} {x ix : Operand} {ok : Bool} (h : evLookup P ρ t x ix ok s = some (v, s')) : Up s s' := by
  unfold evLookup at h
  repeat' (split at h)
  all_goals first
    | (cases h; done)
    | skip
  all_goals (replace h := (bif_some h).2)
  all_goals first
    | (cases h; done)
    | (replace h := (bif_some h).2; injection h with h; injection h with h1 h2; subst h1 h2; exact Up.refl _)
theorem up_lookupT {t : TypeId} {x ix : Operand} {ok : Bool} {r : Option Value} (h : evLookupT P ρ t x ix ok r s = some (v, s')) : Up s s' := by
  unfold evLookupT at h
  repeat' (split at h)
  all_goals first
    | (cases h; done)
    | skip
  replace h := (bif_some h).2
  injection h with h; injection h with h1 h2; subst h1 h2; exact up_toldW _
theorem up_update {t : TypeId} {m k x : Operand} (h : evUpdate P ρ t m k x s = some (v, s')) : Up s s' := by
  unfold evUpdate at h
  repeat' (split at h)
  all_goals first
    | (cases h; done)
    | skip
  all_goals (replace h := (bif_some h).2)
  all_goals first
    | (cases h; done)
    | (injection h with h; injection h with h1 h2; subst h1 h2; exact up_putM)
theorem up_updateT {t : TypeId} {m k x : Operand} {l : List MapEntry} (h : evUpdateT P ρ t m k x l s = some (v, s')) : Up s s' := by
  unfold evUpdateT at h
  repeat' (split at h)
  all_goals first
    | (cases h; done)
    | skip
  replace h := (bif_some h).2
  injection h with h; injection h with h1 h2; subst h1 h2; exact up_putM.trans (up_toldW _)
theorem up_builtin {o : Oper} {c : Call} {b : Builtin} (h : evBuiltin P ρ o c b s = some (v, s')) : Up s s' := by
  unfold evBuiltin at h
  split at h
  · split at h
    · split at h
      · exact (up_nextW (by assumption)).trans (up_appendT h)
      · exact (up_nextW (by assumption)).trans (up_appendTI h)
      · exact (up_nextW (by assumption)).trans (up_appendT0 h)
      · cases h
      · exact (up_nextW (by assumption)).trans (up_append h)
    · cases h
  · split at h
    · split at h
      · injection h with h; injection h with h1 h2; subst h1 h2; exact Up.refl _
      · split at h
        · injection h with h; injection h with h1 h2; subst h1 h2; exact Up.refl _
        · cases h
      · exact up_general h
    · cases h
  · split at h
    · exact up_delete h
    · cases h
  · split at h
    · exact up_clear h
    · cases h
  · exact up_general h
theorem up_nextX {s s1 : St} {a : Option Nat} (h : s.nextX = (a, s1)) : Up s s1 := by
  unfold St.nextX at h
  split at h <;> (injection h with h1 h2; subst h1 h2)
  · exact Up.refl _
  · exact ⟨Nat.le_refl _, List.suffix_refl _, [], rfl, fun _ _ _ => rfl⟩
theorem up_nextL {s s1 : St} {a : Option (List Cell)} (h : s.nextL = (a, s1)) : Up s s1 := by
  unfold St.nextL at h
  split at h <;> (injection h with h1 h2; subst h1 h2)
  · exact Up.refl _
  · exact ⟨Nat.le_refl _, List.suffix_refl _, [], rfl, fun _ _ _ => rfl⟩
theorem up_told {s : St} {q : Bool} : Up s (s.told q) := ⟨Nat.le_refl _, List.suffix_cons _ _, [], rfl, fun _ _ _ => rfl⟩
theorem up_indexAddrT {t : Nat} {x ix : Operand} {i : Nat} (h : evIndexAddrT P ρ t x ix i s = some (v, s')) : Up s s' := by
  unfold evIndexAddrT at h
  repeat' (split at h)
  all_goals first
    | (cases h; done)
    | (injection h with h; injection h with h1 h2; subst h1 h2; exact up_told.trans up_told)
theorem up_loadT {t : Nat} {a : Operand} {l : List Cell} (h : evLoadT P ρ t a l s = some (v, s')) : Up s s' := by
  unfold evLoadT at h
  repeat' (split at h)
  all_goals first
    | (cases h; done)
    | (injection h with h; injection h with h1 h2; subst h1 h2; exact up_told)
theorem up_sliceS {t : Nat} {x : Operand} {lo hi : Option Operand} (h : evSliceS P ρ t x lo hi s = some (v, s')) : Up s s' := by
  unfold evSliceS at h
  split at h
  · split at h
    · replace h := (bif_some h).2
      split at h
      · injection h with h; injection h with h1 h2; subst h1 h2; exact up_tst (by assumption)
      · cases h
    · cases h
  · cases h
theorem up_evSl {o : Oper} {t : Nat} {x : Operand} {lo hi : Option Operand} (h : evSl P ρ o t x lo hi s = some (v, s')) : Up s s' := by
  unfold evSl at h
  split at h
  · exact (up_nextW (by assumption)).trans (up_sliceT h)
  · exact (up_nextW (by assumption)).trans (up_cutT h)
  · cases h
  · split at h
    · injection h with h; subst h; exact (up_nextW (by assumption)).trans (up_slice (by assumption))
    · split at h
      · injection h with h; subst h; exact (up_nextW (by assumption)).trans (up_sliceS (by assumption))
      · exact (up_nextW (by assumption)).trans (up_general h)
theorem up_ev1 {o : Oper} (h : ev1 P ρ o s = some (v, s')) : Up s s' := by
  unfold ev1 at h
  split at h
  all_goals first
    | exact up_evSl h | exact up_buildSlice h | exact up_build h | exact up_fieldAddr h | exact up_field h | exact up_indexAddr h | exact up_bin h | exact up_cat h | exact up_general h
    | (injection h with h; injection h with h1 h2; subst h1 h2; first | exact Up.refl _ | exact up_add)
    | (cases h; done)
    | skip
  · split at h
    · split at h <;> (injection h with h; injection h with h1 h2; subst h1 h2; exact Up.refl _)
    · cases h
  all_goals (repeat' (split at h))
  all_goals first
    | (cases h; done)
    | exact (up_nextW (by assumption)).trans (up_storeT h)
    | exact (up_nextW (by assumption)).trans (up_store h)
    | exact (up_nextW (by assumption)).trans (up_remT h)
    | exact (up_nextW (by assumption)).trans (up_shT h)
    | exact (up_nextW (by assumption)).trans (up_bin h)
    | exact up_cat h
    | exact up_bin h
    | exact up_makeMap h
    | exact (up_nextW (by assumption)).trans (up_lookupT h)
    | exact (up_nextW (by assumption)).trans (up_lookup h)
    | exact (up_nextW (by assumption)).trans (up_updateT h)
    | exact (up_nextW (by assumption)).trans (up_update h)
    | exact up_evSl h
    | exact (up_nextW (by assumption)).trans (up_makeT h)
    | exact (up_nextW (by assumption)).trans (up_convertT h)
    | exact (up_nextW (by assumption)).trans (up_convert h)
    | exact (up_nextW (by assumption)).trans (up_makeSlice h)
    | exact (up_nextW (by assumption)).trans (up_general h)
    | (injection h with h; subst h; first | exact (up_nextW (by assumption)).trans (up_slice (by assumption)) | exact (up_nextW (by assumption)).trans (up_sliceS (by assumption)))
    | exact (up_nextL (by assumption)).trans (up_loadT h)
    | exact (up_nextX (by assumption)).trans (up_indexAddrT h)
    | exact (up_nextX (by assumption)).trans (up_indexAddr h)
    | (injection h with h; injection h with h1 h2; subst h1 h2; exact up_nextL (by assumption))
    | exact up_builtin h
    | exact up_general h
    | (injection h with h; injection h with h1 h2; subst h1 h2; first | exact Up.refl _ | exact up_add)
    | (injection h with h; subst h; first | exact up_index (by assumption) | exact up_slice (by assumption) | exact up_sliceS (by assumption) | exact up_convert (by assumption))
theorem up_mark {n : Nat} {args : Array Value} (h : evMark n args s = some (v, s')) : Up s s' := by
  unfold evMark at h
  split at h
  · injection h with h; injection h with h1 h2; subst h1 h2; exact Up.refl _
  · injection h with h; injection h with h1 h2; subst h1 h2; exact Up.refl _
  · cases h
theorem up_atomic {kk : IntKind} {e : Nat} {args : Array Value} (h : evAtomic kk e args s = some (v, s')) : Up s s' := by
  unfold evAtomic at h
  repeat' (split at h)
  all_goals first
    | (cases h; done)
    | (injection h with h; injection h with h1 h2; subst h1 h2; first | exact Up.refl _ | exact up_writeAt (by assumption) | exact up_tst (by assumption) | exact (up_tst (by assumption)).trans (up_writeAt (by assumption)))
theorem up_fixB {o : Oper} {v1 : Value} {s1 : St} (h : fixB o v s = (v1, s1)) : Up s s1 := by
  unfold fixB at h
  split at h
  all_goals first
    | (generalize hq : s.tst _ = q at h; obtain ⟨b, s2⟩ := q; simp only [Prod.mk.injEq] at h; obtain ⟨rfl, rfl⟩ := h; exact up_tst hq)
    | (generalize hq : s.vst _ = q at h; obtain ⟨b, s2⟩ := q; simp only [Prod.mk.injEq] at h; obtain ⟨rfl, rfl⟩ := h; exact up_vst hq)
    | (simp only [Prod.mk.injEq] at h; obtain ⟨rfl, rfl⟩ := h; exact Up.refl _)
end
end Ev
end Go.Proofs.YtldlnclkdgfahaaGreat
