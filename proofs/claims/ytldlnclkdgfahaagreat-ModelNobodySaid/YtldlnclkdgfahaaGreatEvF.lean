/- Each operation of the runner against the model's own: all of them together. -/
import Derived.Test.YtldlnclkdgfahaaGreatEvMp
import Derived.Laws.BytesString
import Derived.Laws.StructEq
import Derived.Laws.LoneSync
namespace Go.Proofs.YtldlnclkdgfahaaGreat
open Go.RowKit
namespace Ev
section
variable {P : Program} {ι : Ren} {w : World} {ρ ρ' : Operand → Value} {s s' : St} {v : Value}

theorem bin_sound {o : Oper} {op : BinOp} {t : TypeId} {x y : Operand} {yt : TypeId} (ho : o.op = .binOp op t x y yt) (hρ : ∀ x, VR ι (ρ x) (ρ' x)) (he : Emb P ι s.h.get w) (h : evBin P ρ o op t x y s = some (v, s')) :
    s' = s ∧ Res P ((execOp ρ' o).run P w) s ι w v s' := by
  have hs : ∀ cs b, o.op ≠ .select cs b := fun cs b e => by rw [ho] at e; cases e
  unfold evBin at h
  split at h
  · rename_i q hq
    injection h with h
    injection h with h1 h2
    subst h1 h2
    obtain ⟨xs, ys, hx', hy', hg, hr⟩ := aggEq_run (w := w) (hρ x) (hρ y) hq
    have g := guard_agg (P := P) (w := w) (op := .eql) (t := t) (x := x) (y := y) (xs := xs) (ys := ys) hg
    rw [hx', hy'] at hr
    exact ⟨rfl, Res.same he (v' := .bool q) (by simp [execOp, ho, hx', hy', g, (agg_eql hr).1, Result.andThen, Sem.run]) (.atom rfl)⟩
  · rename_i q hq
    injection h with h
    injection h with h1 h2
    subst h1 h2
    obtain ⟨xs, ys, hx', hy', hg, hr⟩ := aggEq_run (w := w) (hρ x) (hρ y) hq
    have g := guard_agg (P := P) (w := w) (op := .neq) (t := t) (x := x) (y := y) (xs := xs) (ys := ys) hg
    rw [hx', hy'] at hr
    exact ⟨rfl, Res.same he (v' := .bool (!q)) (by simp [execOp, ho, hx', hy', g, (agg_eql hr).2, Result.andThen, Sem.run]) (.atom rfl)⟩
  split at h
  · rename_i r hr
    injection h with h
    subst h
    exact general_sound hs hρ he hr
  · split at h
    · rename_i q hq _ _
      injection h with h
      injection h with h1 h2
      subst h1 h2
      obtain ⟨k1, k2⟩ := nilEq_kind hq
      have e1 := binOp_eql (w := w) (kindB_VR (hρ x) k1) (kindB_VR (hρ y) k2) (nilEq_sound (hρ x) (hρ y) hq)
      have g := guard_kind (P := P) (w := w) (op := .eql) (t := t) (x := x) (y := y) (b := ρ' y) (kindB_VR (hρ x) k1)
      exact ⟨rfl, Res.same he (v' := .bool q) (by simp [execOp, ho, g, e1, Result.andThen, Sem.run]) (.atom rfl)⟩
    · rename_i q hq _ _
      injection h with h
      injection h with h1 h2
      subst h1 h2
      obtain ⟨k1, k2⟩ := nilEq_kind hq
      have e1 := binOp_neq (w := w) (kindB_VR (hρ x) k1) (kindB_VR (hρ y) k2) (nilEq_sound (hρ x) (hρ y) hq)
      have g := guard_kind (P := P) (w := w) (op := .neq) (t := t) (x := x) (y := y) (b := ρ' y) (kindB_VR (hρ x) k1)
      exact ⟨rfl, Res.same he (v' := .bool (!q)) (by simp [execOp, ho, g, e1, Result.andThen, Sem.run]) (.atom rfl)⟩
    · cases h
theorem remT_sound {o : Oper} {t : TypeId} {x y : Operand} {yt : TypeId} (ho : o.op = .binOp .rem t x y yt) (hρ : ∀ x, VR ι (ρ x) (ρ' x)) (he : Emb P ι s.h.get w) (hob : ∀ p ∈ s'.ob, p.1 = p.2) (h : evRemT ρ x y s = some (v, s')) :
    s'.h = s.h ∧ s'.n = s.n ∧ Res P ((execOp ρ' o).run P w) s ι w v s := by
  unfold evRemT at h
  split at h
  · rename_i k a k' b hx hy
    injection h with h
    injection h with h1 h2
    subst h1 h2
    obtain ⟨hk, hb⟩ := dP_iff.1 (hob (dP (k = k' ∧ b ≠ 0), true) (by simp [St.told]))
    subst hk
    have hx' : ρ' x = .int k a := by have := hρ x; rw [hx] at this; exact this.eq_of_atom rfl
    have hy' : ρ' y = .int k b := by have := hρ y; rw [hy] at this; exact this.eq_of_atom rfl
    have g : (eqGuard .rem t x y (.int k a) (.int k b)).run P w = .ok () w := rfl
    have e1 : (binOp .rem t (.int k a) (.int k b)).run P w = .ok (.int k (Int.tmod a b)) w := by
      simp [binOp, Op.intDiv, hb, Sem.run]
    exact ⟨rfl, rfl, Res.same he (v' := .int k (Int.tmod a b)) (by simp [execOp, ho, hx', hy', g, e1, Result.andThen, Sem.run]) (.atom rfl)⟩
  · cases h
theorem shT_sound {o : Oper} {op : BinOp} {n : Nat} {t : TypeId} {x y : Operand} {yt : TypeId} (ho : o.op = .binOp op t x y yt) (hρ : ∀ x, VR ι (ρ x) (ρ' x)) (he : Emb P ι s.h.get w) (hob : ∀ p ∈ s'.ob, p.1 = p.2) (h : evShT ρ op x y n s = some (v, s')) :
    s'.h = s.h ∧ s'.n = s.n ∧ Res P ((execOp ρ' o).run P w) s ι w v s := by
  unfold evShT at h
  split at h
  · rename_i k a k' b hx hy
    injection h with h
    injection h with h1 h2
    subst h1 h2
    obtain ⟨hb, hn⟩ := dP_iff.1 (hob (dP (b = Int.ofNat n ∧ n ≤ k.bits), true) (by simp [St.told]))
    have hx' : ρ' x = .int k a := by have := hρ x; rw [hx] at this; exact this.eq_of_atom rfl
    have hy' : ρ' y = .int k' b := by have := hρ y; rw [hy] at this; exact this.eq_of_atom rfl
    have g : (eqGuard .shl t x y (.int k a) (.int k' b)).run P w = .ok () w := rfl
    have e1 : (binOp .shl t (.int k a) (.int k' b)).run P w = .ok (.int k (k.wrap (a * 2 ^ n))) w := by
      subst hb
      show (Op.shift .shl k a k' (Int.ofNat n)).run P w = _
      have hm : min n k.bits = n := by omega
      have h0 : ¬ ((n : Int) < 0) := by omega
      simp [Op.shift, Sem.run, hm, h0]
    exact ⟨rfl, rfl, Res.same he (v' := .int k (k.wrap (a * 2 ^ n))) (by simp [execOp, ho, hx', hy', g, e1, Result.andThen, Sem.run]) (.atom rfl)⟩
  · rename_i k a k' b hx hy
    injection h with h
    injection h with h1 h2
    subst h1 h2
    obtain ⟨hb, hn⟩ := dP_iff.1 (hob (dP (b = Int.ofNat n ∧ n ≤ k.bits), true) (by simp [St.told]))
    have hx' : ρ' x = .int k a := by have := hρ x; rw [hx] at this; exact this.eq_of_atom rfl
    have hy' : ρ' y = .int k' b := by have := hρ y; rw [hy] at this; exact this.eq_of_atom rfl
    have g : (eqGuard .shr t x y (.int k a) (.int k' b)).run P w = .ok () w := rfl
    have e1 : (binOp .shr t (.int k a) (.int k' b)).run P w = .ok (.int k (a / 2 ^ n)) w := by
      subst hb
      show (Op.shift .shr k a k' (Int.ofNat n)).run P w = _
      have hm : min n k.bits = n := by omega
      have h0 : ¬ ((n : Int) < 0) := by omega
      have hp : (0 : Int) ≤ 2 ^ n := Int.pow_nonneg (by decide)
      simp [Op.shift, Sem.run, hm, h0, Int.fdiv_eq_ediv_of_nonneg _ hp]
    exact ⟨rfl, rfl, Res.same he (v' := .int k (a / 2 ^ n)) (by simp [execOp, ho, hx', hy', g, e1, Result.andThen, Sem.run]) (.atom rfl)⟩
  · cases h
theorem cat_sound {o : Oper} {t : TypeId} {x y : Operand} {yt : TypeId} (ho : o.op = .binOp .add t x y yt) (hρ : ∀ x, VR ι (ρ x) (ρ' x)) (he : Emb P ι s.h.get w) (hob : ∀ p ∈ s'.ob, p.1 = p.2) (h : evCat ρ x y s = some (v, s')) :
    s'.h = s.h ∧ s'.n = s.n ∧ Res P ((execOp ρ' o).run P w) s ι w v s := by
  unfold evCat at h
  split at h
  · rename_i a b hx hy
    injection h with h
    injection h with h1 h2
    subst h1 h2
    have hs := dP_iff.1 (hob (dP (((a.size + b.size : Nat) : Int) ≤ IntKind.i64.max), true) (by simp [St.told]))
    have hx' : ρ' x = .string a := by have := hρ x; rw [hx] at this; exact this.eq_of_atom rfl
    have hy' : ρ' y = .string b := by have := hρ y; rw [hy] at this; exact this.eq_of_atom rfl
    have g : (eqGuard .add t x y (.string a) (.string b)).run P w = .ok () w := rfl
    have e1 : (binOp .add t (.string a) (.string b)).run P w = .ok (.string (a ++ b)) w := by
      show (Op.stringOp .add a b).run P w = _
      simp only [Op.stringOp]
      rw [if_neg (by omega)]
      simp [Sem.run]
    exact ⟨rfl, rfl, Res.same he (v' := .string (a ++ b)) (by simp [execOp, ho, hx', hy', g, e1, Result.andThen, Sem.run]) (.atom rfl)⟩
  · cases h
theorem map_VRs (hρ : ∀ x, VR ι (ρ x) (ρ' x)) (a : Array Operand) : VRs ι (a.map ρ) (a.map ρ') := by
  refine ⟨by simp, fun i x y hx hy => ?_⟩
  simp only [Array.getElem?_map] at hx hy
  cases hi : a[i]? with
  | none => rw [hi] at hx; cases hx
  | some z => rw [hi] at hx hy; injection hx with hx; injection hy with hy; subst hx hy; exact hρ z
theorem builtin_sound {o : Oper} {c : Call} {b : Builtin} (ho : o.op = .call c) (hc : c.callee = .builtin b) (hρ : ∀ x, VR ι (ρ x) (ρ' x)) (he : Emb P ι s.h.get w) (hf : Fresh ι s.n s'.n) (hob : ∀ p ∈ s'.ob, p.1 = p.2) (h : evBuiltin P ρ o c b s = some (v, s')) :
    Res P ((execOp ρ' o).run P w) s ι w v s' := by
  have hs : ∀ cs b, o.op ≠ .select cs b := fun cs b e => by rw [ho] at e; cases e
  obtain ⟨cs, hrun⟩ : ∃ cs, (execOp ρ' o).run P w = (builtin b c.argTypes o.type cs (c.args.map ρ')).run P w := ⟨_, by
    simp [execOp, ho, resolve, hc, invoke, Result.andThen, Sem.run]
    rfl⟩
  unfold evBuiltin at h
  split at h
  · split at h
    · rename_i t tx x y ht hx
      obtain ⟨v', w', ι', hr, h1, h2, h3⟩ : ∃ v' w' ι', (Builtin.append_ #[t, tx] o.type #[ρ' x, ρ' y]).run P w = .ok v' w' ∧ Step P ι s.h.get w ι' s'.h.get w' ∧ Dom ι ι' s.n s'.n ∧ VR ι' v v' := by
        split at h
        · rename_i s1 hw
          obtain ⟨e1, e2, _⟩ := nextW_eq hw
          obtain ⟨s2, h4, e3, e4⟩ := appendT_eq hob h
          have := appendTo_sound (ty := o.type) (hρ x) (hρ y) (e1 ▸ he) (e2 ▸ e4 ▸ hf) h4
          rw [e3, e4, ← e1, ← e2]
          exact this
        · rename_i s1 hw
          obtain ⟨e1, e2, _⟩ := nextW_eq hw
          obtain ⟨s2, h4, e3, e4⟩ := appendTI_eq hob h
          have := appendTo_sound (ty := o.type) (hρ x) (hρ y) (e1 ▸ he) (e2 ▸ e4 ▸ hf) h4
          rw [e3, e4, ← e1, ← e2]
          exact this
        · rename_i s1 hw
          obtain ⟨e1, e2, _⟩ := nextW_eq hw
          obtain ⟨s2, h4, e3, e4⟩ := appendT0_eq hob h
          have := appendTo_sound (ty := o.type) (hρ x) (hρ y) (e1 ▸ he) (e2 ▸ e4 ▸ hf) h4
          rw [e3, e4, ← e1, ← e2]
          exact this
        · cases h
        · rename_i s1 hw
          obtain ⟨e1, e2, _⟩ := nextW_eq hw
          have := appendTo_sound (ty := o.type) (hρ x) (hρ y) (e1 ▸ he) (e2 ▸ hf) h
          rw [← e1, ← e2]
          exact this
      refine ⟨.value v', w', ι', v', ?_, .inl rfl, h1, h2, h3⟩
      have e1 : c.argTypes = #[t, tx] := by rw [← Array.toArray_toList (xs := c.argTypes), ht]
      have e2 : c.args.map ρ' = #[ρ' x, ρ' y] := by rw [← Array.toArray_toList (xs := c.args), hx]; simp
      rw [hrun, e1, e2]
      simp [builtin, hr, Result.andThen, Sem.run]
    · cases h
  · split at h
    · rename_i t x ht hx
      split at h
      · rename_i e a n k hu hxx
        injection h with h
        injection h with h1 h2
        subst h1 h2
        have e1 : c.argTypes = #[t] := by rw [← Array.toArray_toList (xs := c.argTypes), ht]
        have e2 : c.args.map ρ' = #[ρ' x] := by rw [← Array.toArray_toList (xs := c.args), hx]; simp
        have hv := hxx ▸ hρ x
        have hl : ∃ a' c', ρ' x = .slice a' n c' := by
          generalize ρ' x = x' at hv
          cases hv with
          | atom h => simp [Ev.atom] at h
          | slice => exact ⟨_, _, rfl⟩
          | slice0 => exact ⟨_, _, rfl⟩
        obtain ⟨a', c', hl⟩ := hl
        refine Res.same he (v' := goInt n) ?_ (.atom rfl)
        rw [hrun, e1, e2, hl]
        simp [builtin, Builtin.len_, run_underlying hu, Result.andThen, Sem.run]
      · rename_i kt et b0 hu hxx
        split at h
        · rename_i es hes
          injection h with h
          injection h with h1 h2
          subst h1 h2
          have e1 : c.argTypes = #[t] := by rw [← Array.toArray_toList (xs := c.argTypes), ht]
          have e2 : c.args.map ρ' = #[ρ' x] := by rw [← Array.toArray_toList (xs := c.args), hx]; simp
          refine Res.same he (v' := goInt es.length) ?_ (.atom rfl)
          rw [hrun, e1, e2]
          simp [builtin, mapLen_sound (ty := o.type) hu (hxx ▸ hρ x) he hes, Result.andThen, Sem.run]
        · cases h
      · exact (general_sound hs hρ he h).2
    · cases h
  · split at h
    · rename_i t t2 x k ht hx
      have e1 : c.argTypes = #[t, t2] := by rw [← Array.toArray_toList (xs := c.argTypes), ht]
      have e2 : c.args.map ρ' = #[ρ' x, ρ' k] := by rw [← Array.toArray_toList (xs := c.args), hx]; simp
      obtain ⟨w', q1, q2, q3, rfl⟩ := delete_sound (t2 := t2) (ty := o.type) (hρ x) (hρ k) he h
      refine ⟨.value (.tuple #[]), w', ι, .tuple #[], ?_, .inl rfl, q2, q3 ▸ Dom.refl, VR.of_free rfl⟩
      rw [hrun, e1, e2]
      simp [builtin, q1, Result.andThen, Sem.run]
    · cases h
  · split at h
    · rename_i t x ht hx
      have e1 : c.argTypes = #[t] := by rw [← Array.toArray_toList (xs := c.argTypes), ht]
      have e2 : c.args.map ρ' = #[ρ' x] := by rw [← Array.toArray_toList (xs := c.args), hx]; simp
      obtain ⟨w', q1, q2, q3, rfl⟩ := clear_sound (ty := o.type) (hρ x) he h
      refine ⟨.value (.tuple #[]), w', ι, .tuple #[], ?_, .inl rfl, q2, q3 ▸ Dom.refl, VR.of_free rfl⟩
      rw [hrun, e1, e2]
      simp [builtin, q1, Result.andThen, Sem.run]
    · cases h
  · exact (general_sound hs hρ he h).2
theorem nilCheck_sound {o : Oper} {x : Operand} (ho : o.op = .nilCheck x) (hρ : ∀ x, VR ι (ρ x) (ρ' x)) (he : Emb P ι s.h.get w) (h : (match ρ x with
    | .pointer (some a) => some ((.pointer (some a) : Value), s)
    | .func (.func f) a b => some (.func (.func f) a b, s)
    | _ => none) = some (v, s')) : s' = s ∧ Res P ((execOp ρ' o).run P w) s ι w v s' := by
  split at h
  · rename_i a hx
    injection h with h
    injection h with h1 h2
    subst h1 h2
    have hv := hx ▸ hρ x
    refine ⟨rfl, Res.same he (v' := ρ' x) ?_ hv⟩
    have : ∃ a', ρ' x = .pointer (some a') := by
      generalize ρ' x = x' at hv
      cases hv with
      | atom h => simp [Ev.atom] at h
      | ptr h => exact ⟨_, rfl⟩
    obtain ⟨a', hx'⟩ := this
    simp [execOp, ho, hx', Sem.run]
  · rename_i f a b hx
    injection h with h
    injection h with h1 h2
    subst h1 h2
    have hv := hx ▸ hρ x
    refine ⟨rfl, Res.same he (v' := ρ' x) ?_ hv⟩
    have : ∃ a' b', ρ' x = .func (.func f) a' b' := by
      generalize ρ' x = x' at hv
      cases hv with
      | atom h => exact ⟨_, _, rfl⟩
      | func => exact ⟨_, _, rfl⟩
    obtain ⟨a', b', hx'⟩ := this
    simp [execOp, ho, hx', Sem.run]
  · cases h
theorem bytesOf_spec : ∀ {l : List Value} {ns : List Int}, bytesOf l = some ns → l = ns.map (Value.int .u8)
  | [], ns, h => by simp [bytesOf] at h; subst h; rfl
  | x :: l, ns, h => by
    unfold bytesOf at h
    split at h
    · cases ‹_ :: _ = []›
    · rename_i n l' hx
      injection hx with h1 h2
      subst h1 h2
      split at h
      · rename_i r hr
        injection h with h
        subst h
        rw [bytesOf_spec hr]
        rfl
      · cases h
    · cases h
theorem convertT_sound {o : Oper} {a b : TypeId} {x : Operand} {ns : List Int} (ho : o.op = .convert a b x) (hρ : ∀ x, VR ι (ρ x) (ρ' x)) (he : Emb P ι s.h.get w) (hob : ∀ p ∈ s'.ob, p.1 = p.2) (h : evConvertT P ρ a b x ns s = some (v, s')) :
    s'.h = s.h ∧ s'.n = s.n ∧ Res P ((execOp ρ' o).run P w) s ι w v s := by
  unfold evConvertT at h
  split at h
  · rename_i e k o' n c hua hub hx
    split at h
    · rename_i hue
      injection h with h
      injection h with h1 h2
      subst h1 h2
      have hl := dP_iff.1 (hob (dP (rowS s k o' n = some (ns.map (Value.int .u8))), true) (by simp [St.told]))
      obtain ⟨bk, cs, hb, hcl, hll, hcs, hvv⟩ := rowS_load he hl
      have hcs' : cs = ns.map (Value.int .u8) := by
        apply List.ext_getElem (by omega)
        intro i h1 h2
        have hq := hvv i (ns.map (Value.int .u8))[i] cs[i] (List.getElem?_eq_getElem h2) (List.getElem?_eq_getElem h1)
        rw [List.getElem_map] at hq ⊢
        exact hq.int_inv
      have hv := hx ▸ hρ x
      have : ∃ a' c', ρ' x = .slice a' n c' ∧ (Conv.bytesToString (.slice a' n c')).run P w = .ok (.string (ns.foldl (fun r n => r.push (UInt8.ofNat n.toNat)) ByteArray.empty)) w := by
        generalize ρ' x = x' at hv
        cases hv with
        | atom h => simp [Ev.atom] at h
        | slice hb2 hn hc hq =>
          rename_i b2 c'
          rw [hb] at hb2; injection hb2 with hb2; subst hb2
          refine ⟨_, _, rfl, ?_⟩
          have := run_loadCells_list (P := P) w ⟨bk.1, o', none⟩ cs hcs
          rw [hcl] at this
          rw [hcs'] at this
          exact run_bytesToString w _ n c' ns this
        | slice0 _h0 =>
          rename_i a'
          have : ns = [] := List.eq_nil_of_length_eq_zero (by simpa using hll)
          subst this
          cases a' with
          | none => exact ⟨none, 0, rfl, rfl⟩
          | some a' => exact ⟨some a', 0, rfl, run_bytesToString w a' 0 0 [] rfl⟩
      obtain ⟨a', c', hx', hrun⟩ := this
      refine ⟨rfl, rfl, Res.same he (v' := .string _) ?_ (.atom rfl)⟩
      simp [execOp, ho, hx', run_convert_bytes_string w a b e a' n c' hua hue hub, hrun, Result.andThen, Sem.run]
    · cases h
  · cases h
theorem convert_sound {o : Oper} {a b : TypeId} {x : Operand} (ho : o.op = .convert a b x) (hρ : ∀ x, VR ι (ρ x) (ρ' x)) (he : Emb P ι s.h.get w) (h : evConvert P ρ a b x s = some (v, s')) :
    s' = s ∧ Res P ((execOp ρ' o).run P w) s ι w v s' := by
  unfold evConvert at h
  split at h
  · rename_i e k o' n c hua hub hx
    split at h
    · rename_i l hue hl
      split at h
      · rename_i ns hns
        injection h with h
        injection h with h1 h2
        subst h1 h2
        have hbs := bytesOf_spec hns
        obtain ⟨bk, cs, hb, hcl, hll, hcs, hvv⟩ := row_load he hl
        have hcs' : cs = ns.map (Value.int .u8) := by
          rw [← hbs]
          apply List.ext_getElem (by omega)
          intro i h1 h2
          have hq := hvv i l[i] cs[i] (List.getElem?_eq_getElem h2) (List.getElem?_eq_getElem h1)
          have hli : l[i] = .int .u8 (ns[i]'(by rw [hbs] at h2; simpa using h2)) := by simp [hbs]
          rw [hli] at hq ⊢
          exact hq.int_inv
        have hv := hx ▸ hρ x
        have : ∃ a' c', ρ' x = .slice a' n c' ∧ (Conv.bytesToString (.slice a' n c')).run P w = .ok (.string (ns.foldl (fun r n => r.push (UInt8.ofNat n.toNat)) ByteArray.empty)) w := by
          generalize ρ' x = x' at hv
          cases hv with
          | atom h => simp [Ev.atom] at h
          | slice hb2 hn hc hq =>
            rename_i b2 c'
            rw [hb] at hb2; injection hb2 with hb2; subst hb2
            refine ⟨_, _, rfl, ?_⟩
            have := run_loadCells_list (P := P) w ⟨bk.1, o', none⟩ cs hcs
            rw [hcl] at this
            rw [hcs'] at this
            exact run_bytesToString w _ n c' ns this
          | slice0 _h0 =>
            rename_i a'
            have : ns = [] := List.eq_nil_of_length_eq_zero (by rw [hbs] at hll; simpa using hll)
            subst this
            cases a' with
            | none => exact ⟨none, 0, rfl, rfl⟩
            | some a' => exact ⟨some a', 0, rfl, run_bytesToString w a' 0 0 [] rfl⟩
        obtain ⟨a', c', hx', hrun⟩ := this
        refine ⟨rfl, Res.same he (v' := .string _) ?_ (.atom rfl)⟩
        simp [execOp, ho, hx', run_convert_bytes_string w a b e a' n c' hua hue hub, hrun, Result.andThen, Sem.run]
      · cases h
    · cases h
  · rename_i t k o' hua hub hx
    split at h
    · rename_i i u hi hrow
      obtain ⟨hz, h⟩ := (show ∀ {b : Bool} {x : Option (Value × St)} {y : Value × St}, (bif b then none else x) = some y → b = false ∧ x = some y from fun {b x y} h => by cases b <;> simp at h; exact ⟨rfl, h⟩) h
      injection h with h
      injection h with h1 h2
      subst h1 h2
      obtain ⟨bk, C, tt, hbk, hB, hl, hxx⟩ := rowAt_spec he hrow
      obtain ⟨y, hy, hv⟩ := hxx 0 _ rfl
      obtain ⟨b', hb', hp⟩ := (hx ▸ hρ x).ptr_inv
      rw [hbk] at hb'; injection hb' with hb'; subst hb'
      have hc : w.cell? ⟨bk.1, o', none⟩ = some y := by
        rw [cell_of_row w bk.1 o' C tt (0, 0) hB]
        simpa using hy
      have hsz : (P.info? t).map (fun i => decide (i.size = 0)) = some false := by
        rw [hi]
        simp only [Option.map_some, Option.some.injEq, decide_eq_false_iff_not]
        intro e
        rw [e] at hz
        simp at hz
      refine ⟨rfl, Res.same he (v' := .pointer (some ⟨bk.1, o', none⟩)) ?_ (.ptr hbk)⟩
      simp [execOp, ho, hp, run_convert_to_unsafe (w := w) hua hub hsz hc, Result.andThen, Sem.run]
    · cases h
  · cases h
theorem ev1_sound {o : Oper} (hρ : ∀ x, VR ι (ρ x) (ρ' x)) (he : Emb P ι s.h.get w) (hf : Fresh ι s.n s'.n) (hob : ∀ p ∈ s'.ob, p.1 = p.2) (h : ev1 P ρ o s = some (v, s')) :
    Res P ((execOp ρ' o).run P w) s ι w v s' := by
  obtain ⟨dst, op, type, pos, after, guard⟩ := o
  cases op
  case move x =>
    simp only [ev1, Option.some.injEq, Prod.mk.injEq] at h
    obtain ⟨rfl, rfl⟩ := h
    exact Res.same he (v' := ρ' x) (by simp [execOp, Sem.run]) (hρ x)
  case assign x =>
    simp only [ev1, Option.some.injEq, Prod.mk.injEq] at h
    obtain ⟨rfl, rfl⟩ := h
    exact Res.same he (v' := ρ' x) (by simp [execOp, Sem.run]) (hρ x)
  case pick c a b =>
    simp only [ev1] at h
    split at h
    · rename_i t ht
      have hc := (ht ▸ hρ c).bool_inv
      split at h
      · injection h with h
        injection h with h1 h2
        subst h1 h2
        exact Res.same he (v' := ρ' a) (by simp [execOp, hc, asBool, Result.andThen, Sem.run]) (hρ a)
      · injection h with h
        injection h with h1 h2
        subst h1 h2
        exact Res.same he (v' := ρ' b) (by simp [execOp, hc, asBool, Result.andThen, Sem.run]) (hρ b)
    · cases h
  case alloc t =>
    simp only [ev1] at h
    split at h
    · rename_i z hz
      injection h with h
      injection h with h1 h2
      subst h1 h2
      exact alloc_sound rfl he hz hf
    · cases h
  case box t x =>
    simp only [ev1, Option.some.injEq, Prod.mk.injEq] at h
    obtain ⟨rfl, rfl⟩ := h
    exact box_sound rfl (hρ x) he hf
  case build t ps =>
    simp only [ev1] at h
    obtain ⟨rfl, hr⟩ := build_sound (o := ⟨dst, .build t ps, type, pos, after, guard⟩) rfl hρ he h
    exact hr
  case buildSlice t n ps => exact buildSlice_sound (o := ⟨dst, .buildSlice t n ps, type, pos, after, guard⟩) rfl hρ he hf h
  case load t a =>
    simp only [ev1] at h
    split at h
    · rename_i l s1 hx
      obtain ⟨e1, e2, _⟩ := nextL_eq hx
      exact Res.heap (loadT_sound (o := ⟨dst, .load t a, type, pos, after, guard⟩) (s := s1) rfl (hρ a) (e1 ▸ he) hob h) e1.symm e2.symm
    · rename_i s1 hx
      obtain ⟨e1, e2, _⟩ := nextL_eq hx
      split at h
      · rename_i k o ha
        split at h
        · rename_i u hu
          injection h with h
          injection h with h1 h2
          subst h1 h2
          exact Res.heap (load_sound (o := ⟨dst, .load t a, type, pos, after, guard⟩) (s := s1) rfl ha (hρ a) (e1 ▸ he) hu) e1.symm e2.symm
        · cases h
      · cases h
  case store t a x =>
    simp only [ev1] at h
    split at h
    · rename_i c s1 hw
      obtain ⟨e1, e2, _⟩ := nextW_eq hw
      obtain ⟨s2, h4, e3, e4⟩ := storeT_eq hob h
      exact ((store_sound (o := ⟨dst, .store t a x, type, pos, after, guard⟩) (s := s1) rfl hρ (e1 ▸ he) h4).heap e1.symm e2.symm).behind e3 e4
    · cases h
    · rename_i s1 hw
      obtain ⟨e1, e2, _⟩ := nextW_eq hw
      exact (store_sound (o := ⟨dst, .store t a x, type, pos, after, guard⟩) (s := s1) rfl hρ (e1 ▸ he) h).heap e1.symm e2.symm
  case nilCheck x =>
    simp only [ev1] at h
    obtain ⟨rfl, hr⟩ := nilCheck_sound (o := ⟨dst, .nilCheck x, type, pos, after, guard⟩) rfl hρ he h
    exact hr
  case fieldAddr t x f => obtain ⟨rfl, hr⟩ := fieldAddr_sound (o := ⟨dst, .fieldAddr t x f, type, pos, after, guard⟩) rfl hρ he h; exact hr
  case field t x f => obtain ⟨rfl, hr⟩ := field_sound (o := ⟨dst, .field t x f, type, pos, after, guard⟩) rfl hρ he h; exact hr
  case index t x ix =>
    simp only [ev1] at h
    split at h
    · rename_i r hr
      injection h with h
      subst h
      obtain ⟨e1, hq⟩ := index_sound (o := ⟨dst, .index t x ix, type, pos, after, guard⟩) rfl hρ he hr
      subst e1
      exact hq
    · obtain ⟨rfl, hr⟩ := general_sound (o := ⟨dst, .index t x ix, type, pos, after, guard⟩) (fun _ _ e => by cases e) hρ he h; exact hr
  case indexAddr t x ix =>
    simp only [ev1] at h
    split at h
    · rename_i n s1 hx
      obtain ⟨e1, e2, _⟩ := nextX_eq hx
      exact Res.heap (indexAddrT_sound (o := ⟨dst, .indexAddr t x ix, type, pos, after, guard⟩) (s := s1) rfl hρ (e1 ▸ he) hob h) e1.symm e2.symm
    · rename_i s1 hx
      obtain ⟨e1, e2, _⟩ := nextX_eq hx
      obtain ⟨rfl, hr⟩ := indexAddr_sound (o := ⟨dst, .indexAddr t x ix, type, pos, after, guard⟩) (s := s1) rfl hρ (e1 ▸ he) h
      exact Res.heap hr e1.symm e2.symm
  case extract x i =>
    simp only [ev1] at h
    split at h
    · rename_i vs hx
      split at h
      · rename_i u hu
        injection h with h
        injection h with h1 h2
        subst h1 h2
        obtain ⟨vs', hx', hs, hc⟩ := (hx ▸ hρ x).tuple_inv
        have hlt : i < vs'.size := by rw [← hs]; exact (Array.getElem?_eq_some_iff.1 hu).1
        exact Res.same he (v' := vs'[i]) (by simp [execOp, Instr.extract, hx', Array.getElem?_eq_getElem hlt, Result.andThen, Sem.run]) (hc i _ _ hu (Array.getElem?_eq_getElem hlt))
      · cases h
    · cases h
  case slice t x lo hi mx =>
    simp only [ev1] at h
    split at h
    · unfold evSl at h
      split at h
      · rename_i l m s1 hw
        obtain ⟨e1, e2, _⟩ := nextW_eq hw
        obtain ⟨h4, e3, e4⟩ := sliceT_eq hob h
        obtain ⟨_, hq⟩ := slice_sound (o := ⟨dst, .slice t x lo hi none, type, pos, after, guard⟩) (s := s1) rfl hρ (e1 ▸ he) h4
        exact (hq.heap e1.symm e2.symm).behind e3 e4
      · rename_i m c s1 hw
        obtain ⟨e1, e2, _⟩ := nextW_eq hw
        exact (cut_sound (o := ⟨dst, .slice t x lo hi none, type, pos, after, guard⟩) (s := s1) rfl hρ (e1 ▸ he) (e2 ▸ hf) hob h).heap e1.symm e2.symm
      · cases h
      · rename_i s1 hw
        obtain ⟨e1, e2, _⟩ := nextW_eq hw
        split at h
        · rename_i r hr
          injection h with h
          subst h
          obtain ⟨e1', hq⟩ := slice_sound (o := ⟨dst, .slice t x lo hi none, type, pos, after, guard⟩) (s := s1) rfl hρ (e1 ▸ he) hr
          subst e1'
          exact hq.heap e1.symm e2.symm
        · split at h
          · rename_i r hr
            injection h with h
            subst h
            exact (sliceS_sound (o := ⟨dst, .slice t x lo hi none, type, pos, after, guard⟩) (s := s1) rfl hρ (e1 ▸ he) hob hr).heap e1.symm e2.symm
          · obtain ⟨rfl, hr⟩ := general_sound (o := ⟨dst, .slice t x lo hi none, type, pos, after, guard⟩) (s := s1) (fun _ _ e => by cases e) hρ (e1 ▸ he) h
            exact hr.heap e1.symm e2.symm
    · cases h
  case binOp op t x y yt =>
    by_cases hop : op = .rem
    · subst hop
      simp only [ev1] at h
      split at h
      · rename_i s1 hw
        obtain ⟨e1, e2, _⟩ := nextW_eq hw
        obtain ⟨e3, e4, hr⟩ := remT_sound (o := ⟨dst, .binOp .rem t x y yt, type, pos, after, guard⟩) (s := s1) rfl hρ (e1 ▸ he) hob h
        exact (hr.heap e1.symm e2.symm).behind e3 e4
      · cases h
      · rename_i s1 hw
        obtain ⟨e1, e2, _⟩ := nextW_eq hw
        obtain ⟨rfl, hr⟩ := bin_sound (o := ⟨dst, .binOp .rem t x y yt, type, pos, after, guard⟩) (s := s1) rfl hρ (e1 ▸ he) h
        exact hr.heap e1.symm e2.symm
    · by_cases hl : op = .shl
      · subst hl
        simp only [ev1] at h
        split at h
        · rename_i n s1 hw
          obtain ⟨e1, e2, _⟩ := nextW_eq hw
          obtain ⟨e3, e4, hr⟩ := shT_sound (o := ⟨dst, .binOp .shl t x y yt, type, pos, after, guard⟩) (s := s1) rfl hρ (e1 ▸ he) hob h
          exact (hr.heap e1.symm e2.symm).behind e3 e4
        · cases h
        · rename_i s1 hw
          obtain ⟨e1, e2, _⟩ := nextW_eq hw
          obtain ⟨rfl, hr⟩ := bin_sound (o := ⟨dst, .binOp .shl t x y yt, type, pos, after, guard⟩) (s := s1) rfl hρ (e1 ▸ he) h
          exact hr.heap e1.symm e2.symm
      · by_cases hr : op = .shr
        · subst hr
          simp only [ev1] at h
          split at h
          · rename_i n s1 hw
            obtain ⟨e1, e2, _⟩ := nextW_eq hw
            obtain ⟨e3, e4, hr⟩ := shT_sound (o := ⟨dst, .binOp .shr t x y yt, type, pos, after, guard⟩) (s := s1) rfl hρ (e1 ▸ he) hob h
            exact (hr.heap e1.symm e2.symm).behind e3 e4
          · cases h
          · rename_i s1 hw
            obtain ⟨e1, e2, _⟩ := nextW_eq hw
            obtain ⟨rfl, hr⟩ := bin_sound (o := ⟨dst, .binOp .shr t x y yt, type, pos, after, guard⟩) (s := s1) rfl hρ (e1 ▸ he) h
            exact hr.heap e1.symm e2.symm
        · by_cases ha : op = .add
          · subst ha
            simp only [ev1] at h
            split at h
            · obtain ⟨e3, e4, hr⟩ := cat_sound (o := ⟨dst, .binOp .add t x y yt, type, pos, after, guard⟩) rfl hρ he hob h
              exact hr.behind e3 e4
            · obtain ⟨rfl, hr⟩ := bin_sound (o := ⟨dst, .binOp .add t x y yt, type, pos, after, guard⟩) rfl hρ he h
              exact hr
          · have h : evBin P ρ ⟨dst, .binOp op t x y yt, type, pos, after, guard⟩ op t x y s = some (v, s') := by cases op <;> first | exact h | exact absurd rfl hop | exact absurd rfl hl | exact absurd rfl hr | exact absurd rfl ha
            obtain ⟨rfl, hr⟩ := bin_sound (o := ⟨dst, .binOp op t x y yt, type, pos, after, guard⟩) rfl hρ he h
            exact hr
  case makeSlice t l c =>
    simp only [ev1] at h
    split at h
    · rename_i n cp cs s1 hw
      obtain ⟨e1, e2, _⟩ := nextW_eq hw
      obtain ⟨s2, h4, e3, e4⟩ := makeT_eq hob h
      exact ((makeSlice_sound (o := ⟨dst, .makeSlice t l c, type, pos, after, guard⟩) (s := s1) rfl hρ (e1 ▸ he) (e2 ▸ e4 ▸ hf) h4).heap e1.symm e2.symm).behind e3 e4
    · cases h
    · rename_i s1 hw
      obtain ⟨e1, e2, _⟩ := nextW_eq hw
      exact (makeSlice_sound (o := ⟨dst, .makeSlice t l c, type, pos, after, guard⟩) (s := s1) rfl hρ (e1 ▸ he) (e2 ▸ hf) h).heap e1.symm e2.symm
  case makeFunc fn a b =>
    simp only [ev1, Option.some.injEq, Prod.mk.injEq] at h
    obtain ⟨rfl, rfl⟩ := h
    have h1 := map_VRs hρ a
    have h2 := map_VRs hρ b
    exact Res.same he (v' := .func fn (a.map ρ') (b.map ρ')) (by simp [execOp, Instr.makeFunc, Result.andThen, Sem.run]) (.func h1.1 h2.1 h1.2 h2.2)
  case makeMap t r =>
    exact makeMap_sound (o := ⟨dst, .makeMap t r, type, pos, after, guard⟩) rfl hρ he hf h
  case lookup t x ix ok =>
    simp only [ev1] at h
    split at h
    · rename_i r s1 hw
      obtain ⟨e1, e2, _⟩ := nextW_eq hw
      obtain ⟨s2, h4, e3, e4⟩ := lookupT_eq hob h
      obtain ⟨e5, hr⟩ := lookup_sound (o := ⟨dst, .lookup t x ix ok, type, pos, after, guard⟩) (s := s1) rfl hρ (e1 ▸ he) h4
      subst e5
      exact (hr.heap e1.symm e2.symm).behind e3 e4
    · cases h
    · rename_i s1 hw
      obtain ⟨e1, e2, _⟩ := nextW_eq hw
      obtain ⟨e5, hr⟩ := lookup_sound (o := ⟨dst, .lookup t x ix ok, type, pos, after, guard⟩) (s := s1) rfl hρ (e1 ▸ he) h
      subst e5
      exact hr.heap e1.symm e2.symm
  case mapUpdate t m k x =>
    simp only [ev1] at h
    split at h
    · rename_i l s1 hw
      obtain ⟨e1, e2, _⟩ := nextW_eq hw
      obtain ⟨s2, h4, e3, e4⟩ := updateT_eq hob h
      exact ((update_sound (o := ⟨dst, .mapUpdate t m k x, type, pos, after, guard⟩) (s := s1) rfl hρ (e1 ▸ he) h4).heap e1.symm e2.symm).behind e3 e4
    · cases h
    · rename_i s1 hw
      obtain ⟨e1, e2, _⟩ := nextW_eq hw
      exact (update_sound (o := ⟨dst, .mapUpdate t m k x, type, pos, after, guard⟩) (s := s1) rfl hρ (e1 ▸ he) h).heap e1.symm e2.symm
  case makeInterface t x => obtain ⟨rfl, hr⟩ := general_sound (o := ⟨dst, .makeInterface t x, type, pos, after, guard⟩) (fun _ _ e => by cases e) hρ he h; exact hr
  case unOp op t x => obtain ⟨rfl, hr⟩ := general_sound (o := ⟨dst, .unOp op t x, type, pos, after, guard⟩) (fun _ _ e => by cases e) hρ he h; exact hr
  case convert a b x =>
    simp only [ev1] at h
    split at h
    · split at h
      · rename_i ns s1 hw
        obtain ⟨e1, e2, _⟩ := nextW_eq hw
        obtain ⟨e3, e4, hr⟩ := convertT_sound (o := ⟨dst, .convert a b x, type, pos, after, guard⟩) (s := s1) rfl hρ (e1 ▸ he) hob h
        exact (hr.heap e1.symm e2.symm).behind e3 e4
      · cases h
      · rename_i s1 hw
        obtain ⟨e1, e2, _⟩ := nextW_eq hw
        obtain ⟨e3, hr⟩ := convert_sound (o := ⟨dst, .convert a b x, type, pos, after, guard⟩) (s := s1) rfl hρ (e1 ▸ he) h
        subst e3
        exact hr.heap e1.symm e2.symm
    · split at h
      · rename_i r hr
        injection h with h
        subst h
        obtain ⟨e1, hq⟩ := convert_sound (o := ⟨dst, .convert a b x, type, pos, after, guard⟩) rfl hρ he hr
        subst e1
        exact hq
      · obtain ⟨rfl, hr⟩ := general_sound (o := ⟨dst, .convert a b x, type, pos, after, guard⟩) (fun _ _ e => by cases e) hρ he h; exact hr
  case call c =>
    simp only [ev1] at h
    split at h
    · rename_i b hc
      exact builtin_sound (o := ⟨dst, .call c, type, pos, after, guard⟩) rfl hc hρ he hf hob h
    · cases h
  all_goals (simp [ev1] at h)
theorem fixB_eq {o : Oper} {v v1 : Value} {s1 : St} (h : fixB o v s = (v1, s1)) (hob : ∀ p ∈ s1.ob, p.1 = p.2) : v1 = v ∧ s1.h = s.h ∧ s1.n = s.n := by
  unfold fixB at h
  split at h
  all_goals first
    | (generalize hq : s.tst _ = q at h; obtain ⟨b, s2⟩ := q; simp only [Prod.mk.injEq] at h; obtain ⟨rfl, rfl⟩ := h; obtain ⟨rfl, e1, e2⟩ := tst_eq hq hob; exact ⟨rfl, e1, e2⟩)
    | (generalize hq : s.vst _ = q at h; obtain ⟨b, s2⟩ := q; simp only [Prod.mk.injEq] at h; obtain ⟨rfl, rfl⟩ := h; obtain ⟨rfl, e1, e2⟩ := vst_eq hq hob; exact ⟨rfl, e1, e2⟩)
    | (simp only [Prod.mk.injEq] at h; obtain ⟨rfl, rfl⟩ := h; exact ⟨rfl, rfl, rfl⟩)
end
end Ev
end Go.Proofs.YtldlnclkdgfahaaGreat
