/- The runner against the model: code and calls. -/
import Derived.Test.YtiigdpfdibfkgaaGreatEvG
namespace Go.Proofs.YtiigdpfdibfkgaaGreat
open Go.RowKit
namespace Ev

def PostV (P : Program) (ι : Ren) (s : St) (w : World) (v : Value) (s' : St) (e : Ending) (w' : World) : Prop :=
  ∃ v' ι', e = .returned v' ∧ Step P ι s.h.get w ι' s'.h.get w' ∧ Dom ι ι' s.n s'.n ∧ VR ι' v v'
/-- A call does what g says of it. -/
structure Does (P : Program) (f : FuncId) (g : Array Value → St → Out) : Prop where
  body : ∃ (fn : Func) (c : Code), P.funcs[f]? = some fn ∧ fn.body = some c
  up : ∀ args s v s', g args s = some (v, s') → Up s s'
  does : ∀ args s v s', g args s = some (v, s') → (∀ p ∈ s'.ob, p.1 = p.2) → ∀ ι w args', VRs ι args args' → Emb P ι s.h.get w → Fresh ι s.n s'.n → Calls P f args' w (PostV P ι s w v s')
/-- What is asked of the program besides. -/
structure Fit (P : Program) (ext : FuncId → Option Ext) : Prop where
  mixed : P.follows .mixedOrders = true
  go : ∀ (f : Nat) (fn : Func), P.funcs[f]? = some fn → (fn.name == "runtime.NumGoroutine") = false
  fn : ∀ (f : Nat) (g : List Value → Option Value), ext f = some (.fn g) → (∃ (fn : Func) (c : Code), P.funcs[f]? = some fn ∧ fn.body = some c) ∧ ∀ (args : Array Value) (v : Value), allB free args.toList = true → g args.toList = some v → ∀ w, Calls P f args w fun e w' => e = .returned v ∧ Below w.heap.size w w'
  hp : ∀ (f : Nat) (g : Array Value → St → Out), ext f = some (.hp g) → Does P f g
  mark : ∀ (f : Nat) (n : Nat), ext f = some (.mark n) → ∃ fn : Func, P.funcs[f]? = some fn ∧ fn.body.isNone = true ∧ Extern.findNext fn = none ∧
    (n = 0 ∧ (∃ m : Mark, Extern.find fn = some (fun _ => do mark m; pure Extern.Race.none_)) ∨ n = 1 ∧ ∃ m : Addr → Mark, Extern.find fn = some (Extern.Race.marked m))
  ext : ∀ (f : Nat) (kk : IntKind) (e : Nat), ext f = some (.at kk e) → ∃ fn : Func, P.funcs[f]? = some fn ∧ fn.body.isNone = true ∧ Extern.findNext fn = none ∧
    (e = 0 ∧ Extern.find fn = some (Extern.Atomic.loadT (.int kk)) ∨ e = 1 ∧ Extern.find fn = some Extern.Atomic.storeT ∨
     e = 2 ∧ Extern.find fn = some (Extern.Atomic.update (Op.intArith .add) kk true) ∨ e = 3 ∧ Extern.find fn = some (Extern.Atomic.casT (.int kk)))
section
variable {P : Program} {ext : FuncId → Option Ext}

theorem up_fn {g : List Value → Option Value} {args : Array Value} {s s' : St} {v : Value} (h : evFn g args s = some (v, s')) : Up s s' := by
  unfold evFn at h
  replace h := (bif_some h).2
  split at h
  · replace h := (bif_some h).2
    injection h with h; injection h with h1 h2; subst h1 h2; exact Up.refl _
  · cases h
theorem bif_none {α : Type} {b : Bool} {x : Option α} {y : α} (h : (bif b then none else x) = some y) : b = false ∧ x = some y := by
  cases b with
  | true => simp at h
  | false => exact ⟨rfl, by simpa using h⟩
theorem up_wanted {ops : Array Oper} {T : Tr Value} {o : Oper} {s s' : St} {b : Bool} (h : wantedT ops T o s = some (b, s')) : Up s s' := by
  unfold wantedT at h
  split at h
  · injection h with h; injection h with h1 h2; subst h1 h2; exact Up.refl _
  · split at h
    · split at h
      · injection h with h; injection h with h1 h2; subst h1 h2; exact Up.refl _
      · injection h with h; injection h with h1 h2; subst h1 h2; exact Up.refl _
      · cases h
    · cases h
theorem get_pickK {h : Tr AObj} (k : Nat) : ∀ (t : List Nat), (pickK h t).get k = if k ∈ t then h.get k else none
  | [] => by simp [pickK, Tr.get_nil]
  | j :: t => by
    rw [pickK, Tr.get_set]
    by_cases hk : k = j
    · subst hk; rw [upd_same]; simp
    · rw [upd_other hk, get_pickK k t]
      simp [hk]
theorem get_backK {r h : Tr AObj} (k : Nat) : ∀ (t : List Nat), (backK r t h).get k = if k ∈ t then r.get k else h.get k
  | [] => by simp [backK]
  | j :: t => by
    rw [backK, Tr.get_set]
    by_cases hk : k = j
    · subst hk; rw [upd_same]; simp
    · rw [upd_other hk, get_backK k t]
      simp [hk]
theorem up_all (hup : ∀ (f : Nat) (g : Array Value → St → Out), ext f = some (.hp g) → ∀ args s v s', g args s = some (v, s') → Up s s') : ∀ fu : Nat, (∀ nt c T s e T' s', evCode P ext nt fu c T s = some (e, T', s') → Up s s') ∧ (∀ nt ops l T s T' s', evOps P ext nt fu ops l T s = some (T', s') → Up s s') ∧
    (∀ ρ o s v s', evOp P ext fu ρ o s = some (v, s') → Up s s') ∧ (∀ f args s v s', evCall P ext fu f args s = some (v, s') → Up s s') ∧ (∀ nt ops done l T s es T' s', evDraw P ext nt fu ops done l T s = some (es, T', s') → Up s s') ∧ (∀ ρ o s v s' r, evOne P ext fu ρ o s = some (v, s', r) → Up s s') := by
  intro fu
  induction fu with
  | zero => exact ⟨fun _ _ _ _ _ _ _ h => by simp [evCode] at h, fun _ _ _ _ _ _ _ h => by simp [evOps, St.keep_eq] at h, fun _ _ _ _ _ h => by simp [evOp] at h, fun _ _ _ _ _ h => by simp [evCall] at h, fun _ _ _ _ _ _ _ _ _ h => by simp [evDraw, St.keep_eq] at h, fun _ _ _ _ _ _ h => by simp [evOne] at h⟩
  | succ fu ih =>
    obtain ⟨ihC, ihO, ihP, ihF, ihD, ihE⟩ := ih
    refine ⟨fun nt c T s e T' s' h => ?_, fun nt ops l T s T' s' h => ?_, fun ρ o s v s' h => ?_, fun f args s v s' h => ?_, fun nt ops done l T s es T' s' h => ?_, fun ρ o s v s' r h => ?_⟩
    · cases c <;> simp only [evCode] at h
      case skip => injection h with h; simp only [Prod.mk.injEq] at h; obtain ⟨_, _, rfl⟩ := h; exact Up.refl _
      case label l => injection h with h; simp only [Prod.mk.injEq] at h; obtain ⟨_, _, rfl⟩ := h; exact Up.refl _
      case scope c => exact ihC _ _ _ _ _ _ _ h
      case ret => injection h with h; simp only [Prod.mk.injEq] at h; obtain ⟨_, _, rfl⟩ := h; exact Up.refl _
      case exit id => injection h with h; simp only [Prod.mk.injEq] at h; obtain ⟨_, _, rfl⟩ := h; exact Up.refl _
      case seq a b =>
        split at h
        · exact (ihC _ _ _ _ _ _ _ (by assumption)).trans (ihC _ _ _ _ _ _ _ h)
        · injection h with h; simp only [Prod.mk.injEq] at h; obtain ⟨_, _, rfl⟩ := h; exact ihC _ _ _ _ _ _ _ (by assumption)
        · injection h with h; simp only [Prod.mk.injEq] at h; obtain ⟨_, _, rfl⟩ := h; exact ihC _ _ _ _ _ _ _ (by assumption)
        · cases h
      case cond x a b =>
        split at h
        · split at h
          · exact ihC _ _ _ _ _ _ _ h
          · exact ihC _ _ _ _ _ _ _ h
        · cases h
      case block id a =>
        split at h
        · rename_i i T1 s1 h1
          cases hb : Nat.beq i id <;> rw [hb] at h <;> (injection h with h; simp only [Prod.mk.injEq] at h; obtain ⟨_, _, rfl⟩ := h; exact ihC _ _ _ _ _ _ _ (by assumption))
        · injection h with h; simp only [Prod.mk.injEq] at h; obtain ⟨_, _, rfl⟩ := h; exact ihC _ _ _ _ _ _ _ (by assumption)
        · injection h with h; simp only [Prod.mk.injEq] at h; obtain ⟨_, _, rfl⟩ := h; exact ihC _ _ _ _ _ _ _ (by assumption)
        · cases h
      case loop a =>
        split at h
        · exact (ihC _ _ _ _ _ _ _ (by assumption)).trans (ihC _ _ _ _ _ _ _ h)
        · injection h with h; simp only [Prod.mk.injEq] at h; obtain ⟨_, _, rfl⟩ := h; exact ihC _ _ _ _ _ _ _ (by assumption)
        · injection h with h; simp only [Prod.mk.injEq] at h; obtain ⟨_, _, rfl⟩ := h; exact ihC _ _ _ _ _ _ _ (by assumption)
        · cases h
      case region id ops draw =>
        cases draw with
        | true =>
          simp only [cond_true] at h
          split at h
          · injection h with h; simp only [Prod.mk.injEq] at h; obtain ⟨_, _, rfl⟩ := h; exact ihD _ _ _ _ _ _ _ _ _ (by assumption)
          · cases h
        | false =>
          simp only [cond_false] at h
          split at h
          · injection h with h; simp only [Prod.mk.injEq] at h; obtain ⟨_, _, rfl⟩ := h; exact ihO _ _ _ _ _ _ _ (by assumption)
          · cases h
      all_goals cases h
    · cases l with
      | nil => simp only [evOps, St.keep_eq] at h; injection h with h; simp only [Prod.mk.injEq] at h; obtain ⟨_, rfl⟩ := h; exact Up.refl _
      | cons o l =>
        simp only [evOps, St.keep_eq] at h
        replace h := (bif_some h).2
        split at h
        · split at h
          · exact (up_wanted (by assumption)).trans ((ihP _ _ _ _ _ (by assumption)).trans (ihO _ _ _ _ _ _ _ h))
          · cases h
        · exact (up_wanted (by assumption)).trans (ihO _ _ _ _ _ _ _ h)
        · cases h
    · simp only [evOp] at h
      split at h
      · split at h
        · split at h
          · exact up_atomic h
          · exact up_mark h
          · exact hup _ _ (by assumption) _ _ _ _ h
          · exact up_fn h
          · exact ihF _ _ _ _ _ h
        · cases h
      · split at h
        · rename_i v1 s1 h1
          injection h with h
          exact (up_ev1 h1).trans (up_fixB h)
        · cases h
    · simp only [evCall] at h
      split at h
      · split at h
        · replace h := (bif_some h).2
          split at h
          · cases h
          · split at h
            · injection h with h; simp only [Prod.mk.injEq] at h; obtain ⟨_, rfl⟩ := h; exact ihC _ _ _ _ _ _ _ (by assumption)
            · injection h with h; simp only [Prod.mk.injEq] at h; obtain ⟨_, rfl⟩ := h; exact ihC _ _ _ _ _ _ _ (by assumption)
            · cases h
          · cases h
        · cases h
      · cases h
    · cases l with
      | nil => simp only [evDraw, St.keep_eq] at h; injection h with h; simp only [Prod.mk.injEq] at h; obtain ⟨_, _, rfl⟩ := h; exact Up.refl _
      | cons o l =>
        simp only [evDraw, St.keep_eq] at h
        replace h := (bif_some h).2
        split at h
        · split at h
          · replace h := (bif_some h).2
            exact (up_wanted (by assumption)).trans ((ihE _ _ _ _ _ _ (by assumption)).trans (ihD _ _ _ _ _ _ _ _ _ h))
          · cases h
        · replace h := (bif_some h).2
          exact (up_wanted (by assumption)).trans (ihD _ _ _ _ _ _ _ _ _ h)
        · cases h
    · simp only [evOne] at h
      split at h
      · split at h
        · rename_i v1 s1 h1
          replace h := (bif_some h).2
          injection h with h; simp only [Prod.mk.injEq] at h; obtain ⟨_, rfl, _⟩ := h
          have u := ihP _ _ _ _ _ h1
          obtain ⟨l, e1, e2⟩ := u.log
          simp only [List.append_nil] at e1
          exact ⟨u.n, u.ob, l, by rw [e1], e2⟩
        · cases h
      · replace h := (bif_some h).2
        generalize (touches ρ o).1 = w at h
        generalize (touches ρ o).2 = t at h
        split at h
        · rename_i v1 s1 h1
          obtain ⟨hg, h⟩ := bif_some h
          injection h with h; simp only [Prod.mk.injEq] at h; obtain ⟨_, rfl, _⟩ := h
          have u := ihP _ _ _ _ _ h1
          obtain ⟨l, e1, e2⟩ := u.log
          simp only [List.append_nil] at e1
          refine ⟨u.n, u.ob, l, by rw [e1], fun k hk hn => ?_⟩
          show (Tr.set _ _ _).get k = _
          rw [Tr.get_set]
          by_cases hkn : k = s.n
          · subst hkn
            rw [upd_same]
            have hn' : ¬ s.n < s1.n := fun e => hn ⟨Nat.le_refl _, e⟩
            have : s1.n = s.n := by have := u.n; simp only at this; omega
            rw [beqT this]
            rfl
          · rw [upd_other hkn]
            cases w with
            | false => rfl
            | true =>
              simp only [cond_true]
              rw [get_backK]
              split
              · rename_i hm
                rw [e2 k hk hn, get_pickK, if_pos hm]
              · rfl
        · cases h
end
end Ev
end Go.Proofs.YtiigdpfdibfkgaaGreat
