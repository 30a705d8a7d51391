/- Each operation of the runner against the model's own: comparisons. -/
import Derived.Test.YtldlnclkdgfahaaGreatEvW
import Derived.Laws.BytesString
import Derived.Laws.StructEq
import Derived.Laws.LoneSync
namespace Go.Proofs.YtldlnclkdgfahaaGreat
open Go.RowKit
namespace Ev
section
variable {P : Program} {ι : Ren} {w : World} {ρ ρ' : Operand → Value} {s s' : St} {v : Value}

def kindB : Value → Bool
  | .pointer _ | .slice .. | .nilFunc | .func .. => true
  | _ => false
theorem kindB_VR {x x' : Value} (h : VR ι x x') (hk : kindB x = true) : kindB x' = true := by
  cases h <;> first | exact hk | rfl | (simp [kindB] at hk)
theorem nilEq_kind {d : Option TypeDesc} {x y : Value} {q : Bool} (h : nilEq d x y = some q) : kindB x = true ∧ kindB y = true := by
  unfold nilEq at h
  split at h <;> first | exact ⟨rfl, rfl⟩ | cases h
theorem guard_kind {op : BinOp} {t : TypeId} {x y : Operand} {a b : Value} (ha : kindB a = true) : (eqGuard op t x y a b).run P w = .ok () w := by
  unfold eqGuard
  cases a <;> first | (simp [kindB] at ha; done) | skip
  all_goals cases op <;> rfl
theorem binOp_eql {t : TypeId} {a b : Value} {q : Bool} (ha : kindB a = true) (hb : kindB b = true) (h : (Op.equal t a b).run P w = .ok q w) : (binOp .eql t a b).run P w = .ok (.bool q) w := by
  have : binOp .eql t a b = (do pure (.bool (← Op.equal t a b))) := by
    cases a <;> first | (simp [kindB] at ha; done) | skip
    all_goals cases b <;> first | (simp [kindB] at hb; done) | rfl
  rw [this]
  simp [h, Result.andThen, Sem.run]
theorem binOp_neq {t : TypeId} {a b : Value} {q : Bool} (ha : kindB a = true) (hb : kindB b = true) (h : (Op.equal t a b).run P w = .ok q w) : (binOp .neq t a b).run P w = .ok (.bool (!q)) w := by
  have : binOp .neq t a b = (do pure (.bool (!(← Op.equal t a b)))) := by
    cases a <;> first | (simp [kindB] at ha; done) | skip
    all_goals cases b <;> first | (simp [kindB] at hb; done) | rfl
  rw [this]
  simp [h, Result.andThen, Sem.run]
/-- elements -/
def eqElems (d : Nat) (e : TypeId) (n : Nat) (xs ys : Array Value) : List Nat → Sem Bool
  | [] => pure true
  | i :: l => do
      let a ← part e xs (i * n)
      let b ← part e ys (i * n)
      let r ← Op.equalIn d e a b
      if (!r) = true then pure false else eqElems d e n xs ys l
theorem run_equalIn_array (w : World) (d : Nat) (t e : TypeId) (len : Nat) (i : TypeInfo) (xs ys : Array Value) (ht : P.underlying t = some (.array len e)) (hi : P.info? e = some i) :
    (Op.equalIn (d + 1) t (.agg xs) (.agg ys)).run P w = (eqElems d e i.size xs ys (List.range' 0 len)).run P w := by
  have hs : (sizeOf e : Sem Nat).run P w = .ok i.size w := by
    simp [sizeOf, typeInfo, hi, Result.andThen]
  simp only [Op.equalIn, Sem.run_bind, run_underlying ht, Result.andThen_ok, hs]
  rw [Std.Legacy.Range.forIn_eq_forIn_range']
  simp only [Std.Legacy.Range.size]
  have e1 : (len - 0 + 1 - 1) / 1 = len := by simp
  rw [e1]
  generalize List.range' 0 len = fs
  induction fs generalizing w with
  | nil => simp [eqElems]
  | cons f fs ih =>
    simp only [List.forIn_cons, eqElems, Sem.run_bind, Sem.run_ite]
    generalize (part e xs (f * i.size)).run P w = r1
    cases r1 with
    | ok a w1 =>
      simp only [Result.andThen_ok]
      generalize (part e ys (f * i.size)).run P w1 = r2
      cases r2 with
      | ok b w2 =>
        simp only [Result.andThen_ok]
        generalize (Op.equalIn d e a b).run P w2 = r3
        cases r3 with
        | ok r w3 =>
          cases r
          · simp only [Result.andThen_ok, Bool.not_false, if_true, Sem.run_pure]
          · simp only [Result.andThen_ok, Bool.not_true, Bool.false_eq_true, if_false, Sem.run_pure]
            exact ih w3 (by simp [sizeOf, typeInfo, hi, Result.andThen])
        | halt x w3 => simp [Result.andThen]
      | halt x w2 => simp [Result.andThen]
    | halt x w1 => simp [Result.andThen]

def EqOk (P : Program) (ι : Ren) (w : World) (d : Nat) (g : TypeId → Value → Value → Option Bool) : Prop :=
  ∀ t x y x' y' q, VR ι x x' → VR ι y y' → g t x y = some q → (Op.equalIn d t x' y').run P w = .ok q w
theorem eqFs_run {d : Nat} {g : TypeId → Value → Value → Option Bool} (hg : EqOk P ι w d g) {xs ys xs' ys' : Array Value} (s1 : xs.size = xs'.size) (p1 : ∀ (i : Nat) x y, xs[i]? = some x → xs'[i]? = some y → VR ι x y) (s2 : ys.size = ys'.size) (p2 : ∀ (i : Nat) x y, ys[i]? = some x → ys'[i]? = some y → VR ι x y) :
    ∀ (fs : List Field) (r : Bool), eqFs P g xs ys fs = some r → (Op.eqFields d xs' ys' fs).run P w = .ok r w
  | [], r, h => by simp [eqFs] at h; subst h; rfl
  | f :: fs, r, h => by
    simp only [eqFs] at h
    obtain ⟨hn, h⟩ := (show ∀ {b : Bool} {x : Option Bool} {y : Bool}, (bif b then none else x) = some y → b = false ∧ x = some y from fun {b x y} h => by cases b <;> simp at h; exact ⟨rfl, h⟩) h
    have hname : f.name ≠ "_" := by simpa using hn
    split at h
    · rename_i a b r' h1 h2 h3
      split at h
      · rename_i q hq
        injection h with h
        subst h
        obtain ⟨a', e1, v1⟩ := partOf_sound (w := w) s1 p1 h1
        obtain ⟨b', e2, v2⟩ := partOf_sound (w := w) s2 p2 h2
        have e3 := hg _ _ _ _ _ _ v1 v2 hq
        have ih := eqFs_run hg s1 p1 s2 p2 fs r' h3
        simp only [Op.eqFields, hname, ne_eq, not_false_eq_true, if_true, Sem.run_bind, e1, e2, e3, Result.andThen_ok]
        cases q
        · simp [Sem.run]
        · simpa using ih
      · cases h
    · cases h
theorem eqEs_run {d : Nat} {g : Value → Value → Option Bool} {e : TypeId} {sz : Nat} (hg : ∀ x y x' y' q, VR ι x x' → VR ι y y' → g x y = some q → (Op.equalIn d e x' y').run P w = .ok q w) {xs ys xs' ys' : Array Value} (s1 : xs.size = xs'.size) (p1 : ∀ (i : Nat) x y, xs[i]? = some x → xs'[i]? = some y → VR ι x y) (s2 : ys.size = ys'.size) (p2 : ∀ (i : Nat) x y, ys[i]? = some x → ys'[i]? = some y → VR ι x y) :
    ∀ (n i : Nat) (r : Bool), eqEs P g e sz xs ys n i = some r → (eqElems d e sz xs' ys' (List.range' i n)).run P w = .ok r w
  | 0, i, r, h => by simp [eqEs] at h; subst h; rfl
  | n + 1, i, r, h => by
    simp only [eqEs] at h
    split at h
    · rename_i a b r' h1 h2 h3
      split at h
      · rename_i q hq
        injection h with h
        subst h
        obtain ⟨a', e1, v1⟩ := partOf_sound (w := w) s1 p1 h1
        obtain ⟨b', e2, v2⟩ := partOf_sound (w := w) s2 p2 h2
        have e3 := hg _ _ _ _ _ v1 v2 hq
        have ih := eqEs_run hg s1 p1 s2 p2 n (i + 1) r' h3
        rw [List.range'_succ]
        simp only [eqElems, Sem.run_bind, e1, e2, e3, Result.andThen_ok]
        cases q
        · simp [Sem.run]
        · simpa using ih
      · cases h
    · cases h
theorem eqV_run : ∀ (d k : Nat), EqOk P ι w (d + k) (eqV P d)
  | 0, k => fun t x y x' y' q hx hy h => by simp [eqV] at h
  | d + 1, k => fun t x y x' y' q hx hy h => by
    have ed : d + 1 + k = (d + k) + 1 := by omega
    rw [ed]
    simp only [eqV] at h
    split at h
    · rename_i k0 kk a k2 b hu
      split at h
      · rename_i hk
        subst hk
        injection h with h
        subst h
        have e1 := hx.int_inv
        have e2 := hy.int_inv
        subst e1 e2
        exact run_equalIn_int w (d + k) t _ _ a b hu
      · cases h
    · rename_i a b hu
      injection h with h
      subst h
      have e1 := hx.bool_inv
      have e2 := hy.bool_inv
      subst e1 e2
      exact run_equalIn_bool' w (d + k) t a b hu
    · rename_i fs xs ys hu
      obtain ⟨hg, h⟩ := (show ∀ {b : Bool} {x : Option Bool} {y : Bool}, (bif b then none else x) = some y → b = false ∧ x = some y from fun {b x y} h => by cases b <;> simp at h; exact ⟨rfl, h⟩) h
      obtain ⟨xs', rfl, s1, p1⟩ := hx.agg_inv
      obtain ⟨ys', rfl, s2, p2⟩ := hy.agg_inv
      have hfo : P.fieldsOf t = fs := by unfold Program.fieldsOf; rw [hu]
      have e := run_equalIn_struct (P := P) w (d + k) t xs' ys' (by rw [hfo]; exact hu) hg
      rw [hfo] at e
      exact e.trans (eqFs_run (eqV_run d k) s1 p1 s2 p2 fs.toList q h)
    · rename_i n e xs ys hu
      split at h
      · rename_i i hi
        obtain ⟨xs', rfl, s1, p1⟩ := hx.agg_inv
        obtain ⟨ys', rfl, s2, p2⟩ := hy.agg_inv
        exact (run_equalIn_array w (d + k) t e n i xs' ys' hu hi).trans (eqEs_run (fun x y x' y' q => eqV_run d k e x y x' y' q) s1 p1 s2 p2 n 0 q h)
      · cases h
    · cases h
theorem aggEq_run {t : TypeId} {x y x' y' : Value} {q : Bool} (hx : VR ι x x') (hy : VR ι y y') (h : aggEq P t x y = some q) : ∃ xs ys, x' = .agg xs ∧ y' = .agg ys ∧ P.eqGuardType P.depth t = false ∧ (Op.equal t x' y').run P w = .ok q w := by
  unfold aggEq at h
  split at h
  · rename_i xs ys
    obtain ⟨hg, h⟩ := (show ∀ {b : Bool} {x : Option Bool} {y : Bool}, (bif b then none else x) = some y → b = false ∧ x = some y from fun {b x y} h => by cases b <;> simp at h; exact ⟨rfl, h⟩) h
    have e := eqV_run (P := P) (w := w) 8 9992 t _ _ _ _ q hx hy h
    obtain ⟨xs', rfl, s1, p1⟩ := hx.agg_inv
    obtain ⟨ys', rfl, s2, p2⟩ := hy.agg_inv
    exact ⟨xs', ys', rfl, rfl, hg, e⟩
  · cases h
theorem agg_eql {t : TypeId} {xs ys : Array Value} {q : Bool} (h : (Op.equal t (.agg xs) (.agg ys)).run P w = .ok q w) : (binOp .eql t (.agg xs) (.agg ys)).run P w = .ok (.bool q) w ∧ (binOp .neq t (.agg xs) (.agg ys)).run P w = .ok (.bool (!q)) w := by
  constructor
  · show (do pure (.bool (← Op.equal t (.agg xs) (.agg ys))) : Sem Value).run P w = _
    simp [h, Result.andThen, Sem.run]
  · show (do pure (.bool (!(← Op.equal t (.agg xs) (.agg ys)))) : Sem Value).run P w = _
    simp [h, Result.andThen, Sem.run]
theorem guard_agg {op : BinOp} {t : TypeId} {x y : Operand} {xs ys : Array Value} (h : P.eqGuardType P.depth t = false) : (eqGuard op t x y (.agg xs) (.agg ys)).run P w = .ok () w := by
  unfold eqGuard
  cases op <;> first | rfl | (simp [program, Sem.run, h, Result.andThen])
end
end Ev
end Go.Proofs.YtldlnclkdgfahaaGreat
