/- The runner against the model: what it says holds in every world. -/
import Derived.Test.YtldlnclkdgfahaaGreatEvH
import Derived.Orders
namespace Go.Proofs.YtldlnclkdgfahaaGreat
open Go.RowKit
namespace Ev
section
variable {P : Program} {ext : FuncId → Option Ext}

def Ex.out : Ex → Exit
  | .normal => .normal
  | .exit id => .exit id
  | .ret => .ret
/-- The temporaries. -/
def TR (ι : Ren) (nt : Nat) (D : List Deferred) (T : Tr Value) (a : Act) : Prop := a.tmps.size = nt ∧ a.defers = D ∧ ∀ t, VR ι ((T.get t).getD undef) (a.tmps.getD t undef)
theorem TR.on {ι ι' : Ren} {nt : Nat} {D : List Deferred} {T : Tr Value} {a : Act} (h : TR ι nt D T a) (hi : ∀ k b, ι k = some b → ι' k = some b) : TR ι' nt D T a := ⟨h.1, h.2.1, fun t => (h.2.2 t).ext hi⟩
theorem VR.undef' {ι : Ren} : VR ι undef undef := VR.of_free rfl
theorem TR.put {ι : Ren} {nt : Nat} {D : List Deferred} {T : Tr Value} {a : Act} (h : TR ι nt D T a) {dst : Option Tmp} (hd : okDst nt dst = true) {v v' : Value} (hv : VR ι v v') : TR ι nt D (putT T dst v) (a.put dst v') := by
  cases dst with
  | none => exact h
  | some d =>
    have hlt : d < a.tmps.size := by
      rw [h.1]
      simpa [okDst, Nat.blt_eq] using hd
    refine ⟨by simp [Act.put, h.1], h.2.1, fun t => ?_⟩
    simp only [putT, Tr.get_set, Act.put]
    by_cases ht : t = d
    · subst ht
      rw [upd_same]
      simp [Array.getD, hlt]
      exact hv
    · rw [upd_other ht]
      have : (a.tmps.setIfInBounds d v').getD t undef = a.tmps.getD t undef := by
        simp [Array.getD_eq_getD_getElem?, Array.getElem?_setIfInBounds_ne (fun e => ht e.symm)]
      rw [this]
      exact h.2.2 t
/-- The operands' values, but for constants that are not plain. -/
def evalG (a : Act) : Operand → Value
  | .const v => bif free v then v else undef
  | x => a.eval x
theorem TR.opnd {ι : Ren} {nt : Nat} {D : List Deferred} {T : Tr Value} {a : Act} (h : TR ι nt D T a) (x : Operand) : VR ι (Ev.opnd T x) (evalG a x) := by
  cases x with
  | tmp t => exact h.2.2 t
  | const v =>
    simp only [Ev.opnd, evalG]
    cases hf : free v
    · exact VR.undef'
    · exact VR.of_free hf
  | global g => exact .glob rfl
  | func f => exact .atom rfl
theorem exec_good {a : Act} {o : Oper} (hs : ∀ cs b, o.op ≠ .select cs b) (hg : allB goodOp o.op.operands.toList = true) : execOp (evalG a) o = execOp a.eval o :=
  execOp_congr o hs fun x hx => by
    have := allB_mem hg x (by simpa using hx)
    cases x with
    | const v =>
      simp only [goodOp] at this
      simp [evalG, this, Act.eval]
    | _ => rfl
theorem evalG_bool {a : Act} {x : Operand} {t : Bool} (h : evalG a x = .bool t) : a.eval x = .bool t := by
  cases x with
  | const v =>
    simp only [evalG] at h
    cases hf : free v <;> rw [hf] at h
    · simp [undef] at h
    · exact h
  | _ => exact h
theorem wanted_sound {ι : Ren} {T : Tr Value} {a : Act} {ops : Array Oper} {o : Oper} {s s' : St} {b : Bool} (h : ∀ t ∈ o.looksAt ops, VR ι ((T.get t).getD undef) (a.tmps.getD t undef)) (hw : wantedT ops T o s = some (b, s')) :
    Region.wanted o (yielded ops a.tmps) = b ∧ s'.h = s.h ∧ s'.n = s.n := by
  unfold wantedT at hw
  unfold Region.wanted
  split at hw
  · rename_i hg
    injection hw with hw; injection hw with h1 h2; subst h1 h2
    rw [hg]
    exact ⟨rfl, rfl, rfl⟩
  · rename_i j want hg
    rw [hg]
    simp only
    split at hw
    · rename_i d hd
      have hv := h d (by unfold Oper.looksAt; rw [hg]; simp [hd])
      split at hw
      · rename_i q hq
        rw [hq] at hv
        have hv' := hv.bool_inv
        have hget : a.tmps[d]? = some (.bool q) := by
          simp only [Array.getD_eq_getD_getElem?] at hv'
          cases hx : a.tmps[d]? with
          | none => rw [hx] at hv'; simp [undef] at hv'
          | some u => rw [hx] at hv'; simpa using hv'
        have hy : yielded ops a.tmps j = some q := by
          unfold yielded
          rw [hd]
          simp [hget]
        rw [hy]
        injection hw with hw; injection hw with h1 h2; subst h1 h2
        exact ⟨by cases q <;> cases want <;> rfl, rfl, rfl⟩
      · rename_i u hq
        injection hw with hw; injection hw with h1 h2; subst h1 h2
        rw [hq] at hv
        refine ⟨?_, rfl, rfl⟩
        have hy : yielded ops a.tmps j = none := by
          unfold yielded
          rw [hd]
          simp only [Option.bind_some]
          split
          · rename_i c hc
            exfalso
            simp only [Array.getD_eq_getD_getElem?, hc, Option.getD_some] at hv
            cases hv
          · rfl
        rw [hy]
        rfl
      · cases hw
    · cases hw
/-- The results. -/
def resOne (tmps : Array Value) : ResultVar → Sem Value
  | .tmp t => pure (tmps.getD t undef)
  | .cell b t => do loadVar t (← asAddr (tmps.getD b undef))
theorem results_sound {ι : Ren} {nt : Nat} {D : List Deferred} {T : Tr Value} {a : Act} {s : St} {w : World} (h : TR ι nt D T a) (he : Emb P ι s.h.get w) : ∀ (rs : List ResultVar) (l : List Value), resultsT P T s rs = some l →
    ∃ l' : List Value, (rs.mapM (resOne a.tmps)).run P w = .ok l' w ∧ l.length = l'.length ∧ ∀ (i : Nat) x y, l[i]? = some x → l'[i]? = some y → VR ι x y
  | [], l, hr => by
    simp only [resultsT, Option.some.injEq] at hr
    subst hr
    exact ⟨[], by simp [Sem.run], rfl, fun i x y hx => by simp at hx⟩
  | .tmp t :: rs, l, hr => by
    simp only [resultsT] at hr
    split at hr
    · rename_i r hr'
      injection hr with hr
      subst hr
      obtain ⟨l', h1, h2, h3⟩ := results_sound h he rs r hr'
      refine ⟨a.tmps.getD t undef :: l', ?_, by simp [h2], fun i x y hx hy => ?_⟩
      · have e0 : (resOne a.tmps (.tmp t)).run P w = .ok (a.tmps.getD t undef) w := rfl
        simp only [List.mapM_cons, Sem.run_bind, e0, Result.andThen, h1]
        rfl
      · cases i with
        | zero => simp at hx hy; subst hx hy; simpa using h.2.2 t
        | succ i => exact h3 i x y (by simpa using hx) (by simpa using hy)
    · cases hr
  | .cell b t :: rs, l, hr => by
    simp only [resultsT] at hr
    split at hr
    · rename_i k o hb
      split at hr
      · rename_i u r hu hr'
        injection hr with hr
        subst hr
        obtain ⟨l', h1, h2, h3⟩ := results_sound h he rs r hr'
        obtain ⟨bk, v', hbk, hrun, hv⟩ := loadVar_sound he hu
        have hp := h.2.2 b
        rw [hb] at hp
        obtain ⟨bk', hbk', hp'⟩ := hp.ptr_inv
        rw [hbk] at hbk'; injection hbk' with hbk'; subst hbk'
        refine ⟨v' :: l', ?_, by simp [h2], fun i x y hx hy => ?_⟩
        · have e0 : (resOne a.tmps (.cell b t)).run P w = .ok v' w := by
            simp [resOne, hp', asAddr, hrun, -Array.getD_eq_getD_getElem?]
          simp only [List.mapM_cons, Sem.run_bind, e0, Result.andThen, h1]
          rfl
        · cases i with
          | zero => simp at hx hy; subst hx hy; exact hv
          | succ i => exact h3 i x y (by simpa using hx) (by simpa using hy)
      · cases hr
    · cases hr
theorem results_run {ι : Ren} {nt : Nat} {D : List Deferred} {T : Tr Value} {a : Act} {s : St} {w : World} {fn : Func} {v : Value} (h : TR ι nt D T a) (he : Emb P ι s.h.get w)
    (hr : (match resultsT P T s fn.results.toList with | some [v] => some v | some vs => some (.tuple vs.toArray) | none => none) = some v) : ∃ v', (results fn a.tmps).run P w = .ok v' w ∧ VR ι v v' := by
  have hR : results fn a.tmps = (do let vs ← fn.results.mapM (resOne a.tmps); pure (if h : vs.size = 1 then vs[0] else .tuple vs)) := rfl
  cases hx : resultsT P T s fn.results.toList with
  | none => rw [hx] at hr; cases hr
  | some l =>
    rw [hx] at hr
    obtain ⟨l', h1, h2, h3⟩ := results_sound h he fn.results.toList l hx
    have hA : (fn.results.mapM (resOne a.tmps)).run P w = .ok l'.toArray w := by
      rw [Array.mapM_eq_mapM_toList]
      simp [h1]
    rw [hR]
    rcases l with _ | ⟨x, _ | ⟨y, l⟩⟩
    · injection hr with hr
      subst hr
      have : l' = [] := List.eq_nil_of_length_eq_zero (by simpa using h2.symm)
      subst this
      exact ⟨.tuple #[], by simp [hA], .tuple rfl fun i x y hx => by simp at hx⟩
    · injection hr with hr
      subst hr
      rcases l' with _ | ⟨x', _ | ⟨y', l'⟩⟩
      · simp at h2
      · exact ⟨x', by simp [hA], h3 0 x x' rfl rfl⟩
      · simp at h2
    · injection hr with hr
      subst hr
      have hne : ¬ l'.length = 1 := by simp at h2; omega
      exact ⟨.tuple l'.toArray, by simp [hA, hne], .tuple (by simpa using h2) fun i x y hx hy => h3 i x y (by simpa using hx) (by simpa using hy)⟩
end
end Ev
end Go.Proofs.YtldlnclkdgfahaaGreat
