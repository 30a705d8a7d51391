/- Part 2. -/
import Derived.Test.YtjdojnecmplmnaaGreatZaa
import Derived.Laws.BytesString
import Derived.Laws.StructEq
import Derived.Laws.LoneSync
import Derived.Orders
import Derived.LoopN
import Derived.Scope
import Derived.Defers
set_option linter.unusedSimpArgs false
set_option linter.unusedVariables false
/- Each operation of the runner against the model's own: all of them together. -/
namespace Go.Proofs.YtjdojnecmplmnaaGreat
open Go.RowKit
namespace Ev
section
variable {P : Program} {ι : Ren} {w : World} {ρ ρ' : Operand → Value} {s s' : St} {v : Value}

theorem Zi8 {o : Oper} {op : BinOp} {t : TypeId} {x y : Operand} {yt : TypeId} (ho : o.op = .binOp op t x y yt) (hρ : ∀ x, VR ι (ρ x) (ρ' x)) (he : Emb P ι s.h.get w) (h : Zis P ρ o op t x y s = some (v, s')) :
  s' = s ∧ Res P ((execOp ρ' o).run P w) s ι w v s' := by
 have hs : ∀ cs b, o.op ≠ .select cs b := fun cs b e => by rw [ho] at e; cases e
 unfold Zis at h
 split at h
 ·rename_i q hq
  injection h with h
  injection h with h1 h2
  subst h1 h2
  obtain ⟨xs, ys, hx', hy', hg, hr⟩ := ZjM (w := w) (hρ x) (hρ y) hq
  have g := Zps (P := P) (w := w) (op := .eql) (t := t) (x := x) (y := y) (xs := xs) (ys := ys) hg
  rw [hx', hy'] at hr
  exact ⟨rfl, Res.same he (v' := .bool q) (by simp [execOp, ho, hx', hy', g, (ZrV hr).1, Result.andThen, Sem.run]) (.atom rfl)⟩
 ·rename_i q hq
  injection h with h
  injection h with h1 h2
  subst h1 h2
  obtain ⟨xs, ys, hx', hy', hg, hr⟩ := ZjM (w := w) (hρ x) (hρ y) hq
  have g := Zps (P := P) (w := w) (op := .neq) (t := t) (x := x) (y := y) (xs := xs) (ys := ys) hg
  rw [hx', hy'] at hr
  exact ⟨rfl, Res.same he (v' := .bool (!q)) (by simp [execOp, ho, hx', hy', g, (ZrV hr).2, Result.andThen, Sem.run]) (.atom rfl)⟩
 split at h
 ·rename_i r hr
  injection h with h
  subst h
  exact Zdw hs hρ he hr
 ·split at h
  ·rename_i q hq _ _
   injection h with h
   injection h with h1 h2
   subst h1 h2
   obtain ⟨k1, k2⟩ := Zn3 hq
   have e1 := Zti (w := w) (Zii (hρ x) k1) (Zii (hρ y) k2) (ZlD he (hρ x) (hρ y) hq)
   have g := Zoo (P := P) (w := w) (op := .eql) (t := t) (x := x) (y := y) (b := ρ' y) (Zii (hρ x) k1)
   exact ⟨rfl, Res.same he (v' := .bool q) (by simp [execOp, ho, g, e1, Result.andThen, Sem.run]) (.atom rfl)⟩
  ·rename_i q hq _ _
   injection h with h
   injection h with h1 h2
   subst h1 h2
   obtain ⟨k1, k2⟩ := Zn3 hq
   have e1 := Ztj (w := w) (Zii (hρ x) k1) (Zii (hρ y) k2) (ZlD he (hρ x) (hρ y) hq)
   have g := Zoo (P := P) (w := w) (op := .neq) (t := t) (x := x) (y := y) (b := ρ' y) (Zii (hρ x) k1)
   exact ⟨rfl, Res.same he (v' := .bool (!q)) (by simp [execOp, ho, g, e1, Result.andThen, Sem.run]) (.atom rfl)⟩
  ·cases h
theorem ZsA {o : Oper} {t : TypeId} {x y : Operand} {yt : TypeId} (ho : o.op = .binOp .rem t x y yt) (hρ : ∀ x, VR ι (ρ x) (ρ' x)) (he : Emb P ι s.h.get w) (hob : ∀ p ∈ s'.ob, p.1 = p.2) (h : Zl6 ρ x y s = some (v, s')) :
  s'.h = s.h ∧ s'.n = s.n ∧ Res P ((execOp ρ' o).run P w) s ι w v s := by
 unfold Zl6 at h
 split at h
 ·rename_i k a k' b hx hy
  injection h with h
  injection h with h1 h2
  subst h1 h2
  obtain ⟨hk, hb⟩ := Zbc.1 (hob (dP (k = k' ∧ b ≠ 0), true) (by simp [St.told]))
  subst hk
  have hx' : ρ' x = .int k a := by have := hρ x; rw [hx] at this; exact this.eq_of_atom rfl
  have hy' : ρ' y = .int k b := by have := hρ y; rw [hy] at this; exact this.eq_of_atom rfl
  have g : (eqGuard .rem t x y (.int k a) (.int k b)).run P w = .ok () w := rfl
  have e1 : (binOp .rem t (.int k a) (.int k b)).run P w = .ok (.int k (Int.tmod a b)) w := by
   simp [binOp, Op.intDiv, hb, Sem.run]
  exact ⟨rfl, rfl, Res.same he (v' := .int k (Int.tmod a b)) (by simp [execOp, ho, hx', hy', g, e1, Result.andThen, Sem.run]) (.atom rfl)⟩
 ·cases h
theorem Zpv {o : Oper} {op : BinOp} {n : Nat} {t : TypeId} {x y : Operand} {yt : TypeId} (ho : o.op = .binOp op t x y yt) (hρ : ∀ x, VR ι (ρ x) (ρ' x)) (he : Emb P ι s.h.get w) (hob : ∀ p ∈ s'.ob, p.1 = p.2) (h : ZmS ρ op x y n s = some (v, s')) :
  s'.h = s.h ∧ s'.n = s.n ∧ Res P ((execOp ρ' o).run P w) s ι w v s := by
 unfold ZmS at h
 split at h
 ·rename_i k a k' b hx hy
  injection h with h
  injection h with h1 h2
  subst h1 h2
  obtain ⟨hb, hn⟩ := Zbc.1 (hob (dP (b = Int.ofNat n ∧ n ≤ k.bits), true) (by simp [St.told]))
  have hx' : ρ' x = .int k a := by have := hρ x; rw [hx] at this; exact this.eq_of_atom rfl
  have hy' : ρ' y = .int k' b := by have := hρ y; rw [hy] at this; exact this.eq_of_atom rfl
  have g : (eqGuard .shl t x y (.int k a) (.int k' b)).run P w = .ok () w := rfl
  have e1 : (binOp .shl t (.int k a) (.int k' b)).run P w = .ok (.int k (k.wrap (a * 2 ^ n))) w := by
   subst hb
   show (Op.shift .shl k a k' (Int.ofNat n)).run P w = _
   have hm : min n k.bits = n := by omega
   have h0 : ¬ ((n : Int) < 0) := by omega
   simp [Op.shift, Sem.run, hm, h0]
  exact ⟨rfl, rfl, Res.same he (v' := .int k (k.wrap (a * 2 ^ n))) (by simp [execOp, ho, hx', hy', g, e1, Result.andThen, Sem.run]) (.atom rfl)⟩
 ·rename_i k a k' b hx hy
  injection h with h
  injection h with h1 h2
  subst h1 h2
  obtain ⟨hb, hn⟩ := Zbc.1 (hob (dP (b = Int.ofNat n ∧ n ≤ k.bits), true) (by simp [St.told]))
  have hx' : ρ' x = .int k a := by have := hρ x; rw [hx] at this; exact this.eq_of_atom rfl
  have hy' : ρ' y = .int k' b := by have := hρ y; rw [hy] at this; exact this.eq_of_atom rfl
  have g : (eqGuard .shr t x y (.int k a) (.int k' b)).run P w = .ok () w := rfl
  have e1 : (binOp .shr t (.int k a) (.int k' b)).run P w = .ok (.int k (a / 2 ^ n)) w := by
   subst hb
   show (Op.shift .shr k a k' (Int.ofNat n)).run P w = _
   have hm : min n k.bits = n := by omega
   have h0 : ¬ ((n : Int) < 0) := by omega
   have hp : (0 : Int) ≤ 2 ^ n := Int.pow_nonneg (by decide)
   simp [Op.shift, Sem.run, hm, h0, Int.fdiv_eq_ediv_of_nonneg _ hp]
  exact ⟨rfl, rfl, Res.same he (v' := .int k (a / 2 ^ n)) (by simp [execOp, ho, hx', hy', g, e1, Result.andThen, Sem.run]) (.atom rfl)⟩
 ·cases h
theorem Ztm {o : Oper} {t : TypeId} {x y : Operand} {yt : TypeId} (ho : o.op = .binOp .add t x y yt) (hρ : ∀ x, VR ι (ρ x) (ρ' x)) (he : Emb P ι s.h.get w) (hob : ∀ p ∈ s'.ob, p.1 = p.2) (h : Zoi ρ x y s = some (v, s')) :
  s'.h = s.h ∧ s'.n = s.n ∧ Res P ((execOp ρ' o).run P w) s ι w v s := by
 unfold Zoi at h
 split at h
 ·rename_i a b hx hy
  injection h with h
  injection h with h1 h2
  subst h1 h2
  have hs := Zbc.1 (hob (dP (((a.size + b.size : Nat) : Int) ≤ IntKind.i64.max), true) (by simp [St.told]))
  have hx' : ρ' x = .string a := by have := hρ x; rw [hx] at this; exact this.eq_of_atom rfl
  have hy' : ρ' y = .string b := by have := hρ y; rw [hy] at this; exact this.eq_of_atom rfl
  have g : (eqGuard .add t x y (.string a) (.string b)).run P w = .ok () w := rfl
  have e1 : (binOp .add t (.string a) (.string b)).run P w = .ok (.string (a ++ b)) w := by
   show (Op.stringOp .add a b).run P w = _
   simp only [Op.stringOp]
   rw [if_neg (by omega)]
   simp [Sem.run]
  exact ⟨rfl, rfl, Res.same he (v' := .string (a ++ b)) (by simp [execOp, ho, hx', hy', g, e1, Result.andThen, Sem.run]) (.atom rfl)⟩
 ·cases h
theorem Zjj (hρ : ∀ x, VR ι (ρ x) (ρ' x)) (a : Array Operand) : VRs ι (a.map ρ) (a.map ρ') := by
 refine ⟨by simp, fun i x y hx hy => ?_⟩
 simp only [Array.getElem?_map] at hx hy
 cases hi : a[i]? with
 | none => rw [hi] at hx; cases hx
 | some z => rw [hi] at hx hy; injection hx with hx; injection hy with hy; subst hx hy; exact hρ z
theorem Zp9 {o : Oper} {c : Call} {b : Builtin} (ho : o.op = .call c) (hc : c.callee = .builtin b) (hρ : ∀ x, VR ι (ρ x) (ρ' x)) (he : Emb P ι s.h.get w) (hf : Fresh ι s.n s'.n) (hob : ∀ p ∈ s'.ob, p.1 = p.2) (h : Zi4 P ρ o c b s = some (v, s')) :
  Res P ((execOp ρ' o).run P w) s ι w v s' := by
 have hs : ∀ cs b, o.op ≠ .select cs b := fun cs b e => by rw [ho] at e; cases e
 obtain ⟨cs, hrun⟩ : ∃ cs, (execOp ρ' o).run P w = (builtin b c.argTypes o.type cs (c.args.map ρ')).run P w := ⟨_, by
  simp [execOp, ho, resolve, hc, invoke, Result.andThen, Sem.run]
  rfl⟩
 unfold Zi4 at h
 split at h
 ·split at h
  ·rename_i t tx x y ht hx
   obtain ⟨v', w', ι', hr, h1, h2, h3⟩ : ∃ v' w' ι', (Builtin.append_ #[t, tx] o.type #[ρ' x, ρ' y]).run P w = .ok v' w' ∧ Step P ι s.h.get w ι' s'.h.get w' ∧ Dom ι ι' s.n s'.n ∧ VR ι' v v' := by
    split at h
    ·rename_i s1 hw
     obtain ⟨e1, e2, _⟩ := Zbi hw
     obtain ⟨s2, h4, e3, e4⟩ := Zs1 hob h
     have := Zgl (ty := o.type) (hρ x) (hρ y) (e1 ▸ he) (e2 ▸ e4 ▸ hf) h4
     rw [e3, e4, ← e1, ← e2]
     exact this
    ·rename_i s1 hw
     obtain ⟨e1, e2, _⟩ := Zbi hw
     obtain ⟨s2, h4, e3, e4⟩ := Zr4 hob h
     have := Zgl (ty := o.type) (hρ x) (hρ y) (e1 ▸ he) (e2 ▸ e4 ▸ hf) h4
     rw [e3, e4, ← e1, ← e2]
     exact this
    ·rename_i s1 hw
     obtain ⟨e1, e2, _⟩ := Zbi hw
     obtain ⟨s2, h4, e3, e4⟩ := Zr5 hob h
     have := Zgl (ty := o.type) (hρ x) (hρ y) (e1 ▸ he) (e2 ▸ e4 ▸ hf) h4
     rw [e3, e4, ← e1, ← e2]
     exact this
    ·cases h
    ·rename_i s1 hw
     obtain ⟨e1, e2, _⟩ := Zbi hw
     have := Zgl (ty := o.type) (hρ x) (hρ y) (e1 ▸ he) (e2 ▸ hf) h
     rw [← e1, ← e2]
     exact this
   refine ⟨.value v', w', ι', v', ?_, .inl rfl, h1, h2, h3⟩
   have e1 : c.argTypes = #[t, tx] := by rw [← Array.toArray_toList (xs := c.argTypes), ht]
   have e2 : c.args.map ρ' = #[ρ' x, ρ' y] := by rw [← Array.toArray_toList (xs := c.args), hx]; simp
   rw [hrun, e1, e2]
   simp [builtin, hr, Result.andThen, Sem.run]
  ·cases h
 ·split at h
  ·rename_i t x ht hx
   split at h
   ·rename_i e a n k hu hxx
    injection h with h
    injection h with h1 h2
    subst h1 h2
    have e1 : c.argTypes = #[t] := by rw [← Array.toArray_toList (xs := c.argTypes), ht]
    have e2 : c.args.map ρ' = #[ρ' x] := by rw [← Array.toArray_toList (xs := c.args), hx]; simp
    have hv := hxx ▸ hρ x
    have hl : ∃ a' c', ρ' x = .slice a' n c' := by
     generalize ρ' x = x' at hv
     cases hv with
     | atom h => simp [Ev.atom] at h
     | slice => exact ⟨_, _, rfl⟩
     | slice0 => exact ⟨_, _, rfl⟩
     | mslice => exact ⟨_, _, rfl⟩
    obtain ⟨a', c', hl⟩ := hl
    refine Res.same he (v' := goInt n) ?_ (.atom rfl)
    rw [hrun, e1, e2, hl]
    simp [builtin, Builtin.len_, run_underlying hu, Result.andThen, Sem.run]
   ·rename_i kt et b0 hu hxx
    split at h
    ·rename_i es hes
     injection h with h
     injection h with h1 h2
     subst h1 h2
     have e1 : c.argTypes = #[t] := by rw [← Array.toArray_toList (xs := c.argTypes), ht]
     have e2 : c.args.map ρ' = #[ρ' x] := by rw [← Array.toArray_toList (xs := c.args), hx]; simp
     refine Res.same he (v' := goInt es.length) ?_ (.atom rfl)
     rw [hrun, e1, e2]
     simp [builtin, Zqy (ty := o.type) hu (hxx ▸ hρ x) he hes, Result.andThen, Sem.run]
    ·cases h
   ·exact (Zdw hs hρ he h).2
  ·cases h
 ·split at h
  ·rename_i t t2 x k ht hx
   have e1 : c.argTypes = #[t, t2] := by rw [← Array.toArray_toList (xs := c.argTypes), ht]
   have e2 : c.args.map ρ' = #[ρ' x, ρ' k] := by rw [← Array.toArray_toList (xs := c.args), hx]; simp
   obtain ⟨w', q1, q2, q3, rfl⟩ := Zqx (t2 := t2) (ty := o.type) (hρ x) (hρ k) he h
   refine ⟨.value (.tuple #[]), w', ι, .tuple #[], ?_, .inl rfl, q2, q3 ▸ Dom.refl, VR.of_free rfl⟩
   rw [hrun, e1, e2]
   simp [builtin, q1, Result.andThen, Sem.run]
  ·cases h
 ·split at h
  ·rename_i t x ht hx
   have e1 : c.argTypes = #[t] := by rw [← Array.toArray_toList (xs := c.argTypes), ht]
   have e2 : c.args.map ρ' = #[ρ' x] := by rw [← Array.toArray_toList (xs := c.args), hx]; simp
   obtain ⟨w', q1, q2, q3, rfl⟩ := Zr7 (ty := o.type) (hρ x) he h
   refine ⟨.value (.tuple #[]), w', ι, .tuple #[], ?_, .inl rfl, q2, q3 ▸ Dom.refl, VR.of_free rfl⟩
   rw [hrun, e1, e2]
   simp [builtin, q1, Result.andThen, Sem.run]
  ·cases h
 ·exact (Zdw hs hρ he h).2
theorem ZoH {o : Oper} {x : Operand} (ho : o.op = .nilCheck x) (hρ : ∀ x, VR ι (ρ x) (ρ' x)) (he : Emb P ι s.h.get w) (h : (match ρ x with
  | .pointer (some a) => some ((.pointer (some a) : Value), s)
  | .func (.func f) a b => some (.func (.func f) a b, s)
  | _ => none) = some (v, s')) : s' = s ∧ Res P ((execOp ρ' o).run P w) s ι w v s' := by
 split at h
 ·rename_i a hx
  injection h with h
  injection h with h1 h2
  subst h1 h2
  have hv := hx ▸ hρ x
  refine ⟨rfl, Res.same he (v' := ρ' x) ?_ hv⟩
  have : ∃ a', ρ' x = .pointer (some a') := by
   generalize ρ' x = x' at hv
   cases hv with
   | atom h => simp [Ev.atom] at h
   | ptr h => exact ⟨_, rfl⟩
   | mptr h => exact ⟨_, rfl⟩
  obtain ⟨a', hx'⟩ := this
  simp [execOp, ho, hx', Sem.run]
 ·rename_i f a b hx
  injection h with h
  injection h with h1 h2
  subst h1 h2
  have hv := hx ▸ hρ x
  refine ⟨rfl, Res.same he (v' := ρ' x) ?_ hv⟩
  have : ∃ a' b', ρ' x = .func (.func f) a' b' := by
   generalize ρ' x = x' at hv
   cases hv with
   | atom h => exact ⟨_, _, rfl⟩
   | func => exact ⟨_, _, rfl⟩
  obtain ⟨a', b', hx'⟩ := this
  simp [execOp, ho, hx', Sem.run]
 ·cases h
theorem ZlH : ∀ {l : List Value} {ns : List Int}, Zkp l = some ns → l = ns.map (Value.int .u8)
 | [], ns, h => by simp [Zkp] at h; subst h; rfl
 | x :: l, ns, h => by
  unfold Zkp at h
  split at h
  ·cases ‹_ :: _ = []›
  ·rename_i n l' hx
   injection hx with h1 h2
   subst h1 h2
   split at h
   ·rename_i r hr
    injection h with h
    subst h
    rw [ZlH hr]
    rfl
   ·cases h
  ·cases h
theorem ZoI {o : Oper} {a b : TypeId} {x : Operand} {ns : List Int} (ho : o.op = .convert a b x) (hρ : ∀ x, VR ι (ρ x) (ρ' x)) (he : Emb P ι s.h.get w) (hob : ∀ p ∈ s'.ob, p.1 = p.2) (h : ZhH P ρ a b x ns s = some (v, s')) :
  s'.h = s.h ∧ s'.n = s.n ∧ Res P ((execOp ρ' o).run P w) s ι w v s := by
 unfold ZhH at h
 split at h
 ·rename_i e k o' n c hua hub hx
  split at h
  ·rename_i hue
   injection h with h
   injection h with h1 h2
   subst h1 h2
   have hl := Zbc.1 (hob (dP (Zl3 s k o' n = some (ns.map (Value.int .u8))), true) (by simp [St.told]))
   obtain ⟨bk, cs, hb, hcl, hll, hcs, hvv⟩ := Zpq he hl
   have hcs' : cs = ns.map (Value.int .u8) := by
    apply List.ext_getElem (by omega)
    intro i h1 h2
    have hq := hvv i (ns.map (Value.int .u8))[i] cs[i] (List.getElem?_eq_getElem h2) (List.getElem?_eq_getElem h1)
    rw [List.getElem_map] at hq ⊢
    exact hq.int_inv
   have hv := hx ▸ hρ x
   have : ∃ a' c', ρ' x = .slice a' n c' ∧ (Conv.bytesToString (.slice a' n c')).run P w = .ok (.string (ns.foldl (fun r n => r.push (UInt8.ofNat n.toNat)) ByteArray.empty)) w := by
    generalize ρ' x = x' at hv
    cases hv with
    | atom h => simp [Ev.atom] at h
    | slice hb2 hn hc hq =>
     rename_i b2 c'
     rw [hb] at hb2; injection hb2 with hb2; subst hb2
     refine ⟨_, _, rfl, ?_⟩
     have := run_loadCells_list (P := P) w ⟨bk.1, o', none⟩ cs hcs
     rw [hcl] at this
     rw [hcs'] at this
     exact run_bytesToString w _ n c' ns this
    | slice0 _h0 =>
     rename_i a'
     have : ns = [] := List.eq_nil_of_length_eq_zero (by simpa using hll)
     subst this
     cases a' with
     | none => exact ⟨none, 0, rfl, rfl⟩
     | some a' => exact ⟨some a', 0, rfl, run_bytesToString w a' 0 0 [] rfl⟩
   obtain ⟨a', c', hx', hrun⟩ := this
   refine ⟨rfl, rfl, Res.same he (v' := .string _) ?_ (.atom rfl)⟩
   simp [execOp, ho, hx', run_convert_bytes_string w a b e a' n c' hua hue hub, hrun, Result.andThen, Sem.run]
  ·cases h
 ·rename_i e id o' z n c hua hub hx
  split at h
  ·rename_i hue
   injection h with h
   injection h with h1 h2
   subst h1 h2
   have hl := Zbc.1 (hob (dP (ZT id o' n = some (ns.map (Cell.k .u8))), true) (by simp [St.told]))
   have hv := hx ▸ hρ x
   have : ∃ a' c', ρ' x = .slice a' n c' ∧ (Conv.bytesToString (.slice a' n c')).run P w = .ok (.string (ns.foldl (fun r n => r.push (UInt8.ofNat n.toNat)) ByteArray.empty)) w := by
    generalize ρ' x = x' at hv
    cases hv with
    | atom h => simp [Ev.atom] at h
    | mslice hb hn hc =>
     rename_i b base c' q
     obtain ⟨cs, hcl, hll, hcs, hvv⟩ := ZlB (q := 0) he hb hl
     have ecell : ZaA (ns.map (Cell.k .u8)) = ns.map (Value.int .u8) := by unfold ZaA; rw [List.map_map]; rfl
     have hcs' : cs = ns.map (Value.int .u8) := by
      rw [ecell] at hvv
      rw [List.length_map] at hll
      apply List.ext_getElem (by simp; omega)
      intro i h1 h2
      have hq := hvv i (ns.map (Value.int .u8))[i] cs[i] (List.getElem?_eq_getElem h2) (List.getElem?_eq_getElem h1)
      rw [List.getElem_map] at hq ⊢
      exact hq.int_inv
     refine ⟨_, _, rfl, ?_⟩
     have := run_loadCells_list (P := P) w ⟨b, base + o', none⟩ cs hcs
     rw [hcl] at this
     rw [hcs'] at this
     exact run_bytesToString w _ n c' ns this
    | slice0 _h0 =>
     rename_i a'
     have : ns = [] := by
      unfold ZT at hl
      split at hl
      ·injection hl with hl
       simpa using hl.symm
      ·cases hl
     subst this
     cases a' with
     | none => exact ⟨none, 0, rfl, rfl⟩
     | some a' => exact ⟨some a', 0, rfl, run_bytesToString w a' 0 0 [] rfl⟩
   obtain ⟨a', c', hx', hrun⟩ := this
   refine ⟨rfl, rfl, Res.same he (v' := .string _) ?_ (.atom rfl)⟩
   simp [execOp, ho, hx', run_convert_bytes_string w a b e a' n c' hua hue hub, hrun, Result.andThen, Sem.run]
  ·cases h
 ·cases h
theorem Zlj {o : Oper} {a b : TypeId} {x : Operand} (ho : o.op = .convert a b x) (hρ : ∀ x, VR ι (ρ x) (ρ' x)) (he : Emb P ι s.h.get w) (h : Zh6 P ρ a b x s = some (v, s')) :
  s' = s ∧ Res P ((execOp ρ' o).run P w) s ι w v s' := by
 unfold Zh6 at h
 split at h
 ·rename_i e k o' n c hua hub hx
  split at h
  ·rename_i l hue hl
   split at h
   ·rename_i ns hns
    injection h with h
    injection h with h1 h2
    subst h1 h2
    have hbs := ZlH hns
    obtain ⟨bk, cs, hb, hcl, hll, hcs, hvv⟩ := ZkI he hl
    have hcs' : cs = ns.map (Value.int .u8) := by
     rw [← hbs]
     apply List.ext_getElem (by omega)
     intro i h1 h2
     have hq := hvv i l[i] cs[i] (List.getElem?_eq_getElem h2) (List.getElem?_eq_getElem h1)
     have hli : l[i] = .int .u8 (ns[i]'(by rw [hbs] at h2; simpa using h2)) := by simp [hbs]
     rw [hli] at hq ⊢
     exact hq.int_inv
    have hv := hx ▸ hρ x
    have : ∃ a' c', ρ' x = .slice a' n c' ∧ (Conv.bytesToString (.slice a' n c')).run P w = .ok (.string (ns.foldl (fun r n => r.push (UInt8.ofNat n.toNat)) ByteArray.empty)) w := by
     generalize ρ' x = x' at hv
     cases hv with
     | atom h => simp [Ev.atom] at h
     | slice hb2 hn hc hq =>
      rename_i b2 c'
      rw [hb] at hb2; injection hb2 with hb2; subst hb2
      refine ⟨_, _, rfl, ?_⟩
      have := run_loadCells_list (P := P) w ⟨bk.1, o', none⟩ cs hcs
      rw [hcl] at this
      rw [hcs'] at this
      exact run_bytesToString w _ n c' ns this
     | slice0 _h0 =>
      rename_i a'
      have : ns = [] := List.eq_nil_of_length_eq_zero (by rw [hbs] at hll; simpa using hll)
      subst this
      cases a' with
      | none => exact ⟨none, 0, rfl, rfl⟩
      | some a' => exact ⟨some a', 0, rfl, run_bytesToString w a' 0 0 [] rfl⟩
    obtain ⟨a', c', hx', hrun⟩ := this
    refine ⟨rfl, Res.same he (v' := .string _) ?_ (.atom rfl)⟩
    simp [execOp, ho, hx', run_convert_bytes_string w a b e a' n c' hua hue hub, hrun, Result.andThen, Sem.run]
   ·cases h
  ·cases h
 ·rename_i t k o' hua hub hx
  split at h
  ·rename_i i u hi hrow
   obtain ⟨hz, h⟩ := (show ∀ {b : Bool} {x : Option (Value × St)} {y : Value × St}, (bif b then none else x) = some y → b = false ∧ x = some y from fun {b x y} h => by cases b <;> simp at h; exact ⟨rfl, h⟩) h
   injection h with h
   injection h with h1 h2
   subst h1 h2
   obtain ⟨bk, C, tt, hbk, hB, hl, hxx⟩ := ZkH he hrow
   obtain ⟨y, hy, hv⟩ := hxx 0 _ rfl
   obtain ⟨b', hb', hp⟩ := (hx ▸ hρ x).ptr_inv
   rw [hbk] at hb'; injection hb' with hb'; subst hb'
   have hc : w.cell? ⟨bk.1, o', none⟩ = some y := by
    rw [cell_of_row w bk.1 o' C tt (0, 0) hB]
    simpa using hy
   have hsz : (P.info? t).map (fun i => decide (i.size = 0)) = some false := by
    rw [hi]
    simp only [Option.map_some, Option.some.injEq, decide_eq_false_iff_not]
    intro e
    rw [e] at hz
    simp at hz
   refine ⟨rfl, Res.same he (v' := .pointer (some ⟨bk.1, o', none⟩)) ?_ (.ptr hbk)⟩
   simp [execOp, ho, hp, run_convert_to_unsafe (w := w) hua hub hsz hc, Result.andThen, Sem.run]
  ·cases h
 ·cases h
theorem Ztn {o : Oper} (hρ : ∀ x, VR ι (ρ x) (ρ' x)) (he : Emb P ι s.h.get w) (hf : Fresh ι s.n s'.n) (hob : ∀ p ∈ s'.ob, p.1 = p.2) (h : ev1 P ρ o s = some (v, s')) :
  Res P ((execOp ρ' o).run P w) s ι w v s' := by
 obtain ⟨dst, op, type, pos, after, guard⟩ := o
 cases op
 case move x =>
  simp only [ev1, Option.some.injEq, Prod.mk.injEq] at h
  obtain ⟨rfl, rfl⟩ := h
  exact Res.same he (v' := ρ' x) (by simp [execOp, Sem.run]) (hρ x)
 case assign x =>
  simp only [ev1, Option.some.injEq, Prod.mk.injEq] at h
  obtain ⟨rfl, rfl⟩ := h
  exact Res.same he (v' := ρ' x) (by simp [execOp, Sem.run]) (hρ x)
 case pick c a b =>
  simp only [ev1] at h
  split at h
  ·rename_i t ht
   have hc := (ht ▸ hρ c).bool_inv
   split at h
   ·injection h with h
    injection h with h1 h2
    subst h1 h2
    exact Res.same he (v' := ρ' a) (by simp [execOp, hc, asBool, Result.andThen, Sem.run]) (hρ a)
   ·injection h with h
    injection h with h1 h2
    subst h1 h2
    exact Res.same he (v' := ρ' b) (by simp [execOp, hc, asBool, Result.andThen, Sem.run]) (hρ b)
  ·cases h
 case alloc t =>
  simp only [ev1] at h
  split at h
  ·rename_i z hz
   injection h with h
   injection h with h1 h2
   subst h1 h2
   exact Zru rfl he hz hf
  ·cases h
 case box t x =>
  simp only [ev1, Option.some.injEq, Prod.mk.injEq] at h
  obtain ⟨rfl, rfl⟩ := h
  exact Zte rfl (hρ x) he hf
 case build t ps =>
  simp only [ev1] at h
  obtain ⟨rfl, hr⟩ := Zrz (o := ⟨dst, .build t ps, type, pos, after, guard⟩) rfl hρ he h
  exact hr
 case buildSlice t n ps => exact ZnJ (o := ⟨dst, .buildSlice t n ps, type, pos, after, guard⟩) rfl hρ he hf h
 case load t a =>
  simp only [ev1] at h
  split at h
  ·rename_i l s1 hx
   obtain ⟨e1, e2, _⟩ := Zqp hx
   exact Res.heap (Zrx (o := ⟨dst, .load t a, type, pos, after, guard⟩) (s := s1) rfl (hρ a) (e1 ▸ he) hob h) e1.symm e2.symm
  ·rename_i s1 hx
   obtain ⟨e1, e2, _⟩ := Zqp hx
   split at h
   ·rename_i k o ha
    split at h
    ·rename_i u hu
     injection h with h
     injection h with h1 h2
     subst h1 h2
     exact Res.heap (ZkJ (o := ⟨dst, .load t a, type, pos, after, guard⟩) (s := s1) rfl ha (hρ a) (e1 ▸ he) hu) e1.symm e2.symm
    ·cases h
   ·cases h
 case store t a x =>
  simp only [ev1] at h
  split at h
  ·rename_i c s1 hw
   obtain ⟨e1, e2, _⟩ := Zbi hw
   obtain ⟨s2, h4, e3, e4⟩ := Ztf hob h
   exact ((Zn1 (o := ⟨dst, .store t a x, type, pos, after, guard⟩) (s := s1) rfl hρ (e1 ▸ he) h4).heap e1.symm e2.symm).behind e3 e4
  ·cases h
  ·rename_i s1 hw
   obtain ⟨e1, e2, _⟩ := Zbi hw
   exact (Zn1 (o := ⟨dst, .store t a x, type, pos, after, guard⟩) (s := s1) rfl hρ (e1 ▸ he) h).heap e1.symm e2.symm
 case nilCheck x =>
  simp only [ev1] at h
  obtain ⟨rfl, hr⟩ := ZoH (o := ⟨dst, .nilCheck x, type, pos, after, guard⟩) rfl hρ he h
  exact hr
 case fieldAddr t x f => obtain ⟨rfl, hr⟩ := Zol (o := ⟨dst, .fieldAddr t x f, type, pos, after, guard⟩) rfl hρ he h; exact hr
 case field t x f => obtain ⟨rfl, hr⟩ := Zrv (o := ⟨dst, .field t x f, type, pos, after, guard⟩) rfl hρ he h; exact hr
 case index t x ix =>
  simp only [ev1] at h
  split at h
  ·rename_i r hr
   injection h with h
   subst h
   obtain ⟨e1, hq⟩ := Zrw (o := ⟨dst, .index t x ix, type, pos, after, guard⟩) rfl hρ he hr
   subst e1
   exact hq
  ·obtain ⟨rfl, hr⟩ := Zdw (o := ⟨dst, .index t x ix, type, pos, after, guard⟩) (fun _ _ e => by cases e) hρ he h; exact hr
 case indexAddr t x ix =>
  simp only [ev1] at h
  split at h
  ·rename_i n s1 hx
   obtain ⟨e1, e2, _⟩ := Zqo hx
   exact Res.heap (ZnI (o := ⟨dst, .indexAddr t x ix, type, pos, after, guard⟩) (s := s1) rfl hρ (e1 ▸ he) hob h) e1.symm e2.symm
  ·rename_i s1 hx
   obtain ⟨e1, e2, _⟩ := Zqo hx
   obtain ⟨rfl, hr⟩ := ZfG (o := ⟨dst, .indexAddr t x ix, type, pos, after, guard⟩) (s := s1) rfl hρ (e1 ▸ he) h
   exact Res.heap hr e1.symm e2.symm
 case extract x i =>
  simp only [ev1] at h
  split at h
  ·rename_i vs hx
   split at h
   ·rename_i u hu
    injection h with h
    injection h with h1 h2
    subst h1 h2
    obtain ⟨vs', hx', hs, hc⟩ := (hx ▸ hρ x).tuple_inv
    have hlt : i < vs'.size := by rw [← hs]; exact (Array.getElem?_eq_some_iff.1 hu).1
    exact Res.same he (v' := vs'[i]) (by simp [execOp, Instr.extract, hx', Array.getElem?_eq_getElem hlt, Result.andThen, Sem.run]) (hc i _ _ hu (Array.getElem?_eq_getElem hlt))
   ·cases h
  ·cases h
 case slice t x lo hi mx =>
  simp only [ev1] at h
  split at h
  ·unfold Zsy at h
   split at h
   ·rename_i l m s1 hw
    obtain ⟨e1, e2, _⟩ := Zbi hw
    obtain ⟨h4, e3, e4⟩ := Ztg hob h
    obtain ⟨_, hq⟩ := ZjV (o := ⟨dst, .slice t x lo hi none, type, pos, after, guard⟩) (s := s1) rfl hρ (e1 ▸ he) h4
    exact (hq.heap e1.symm e2.symm).behind e3 e4
   ·rename_i l m m2 cs s1 hw
    obtain ⟨e1, e2, _⟩ := Zbi hw
    obtain ⟨e3, e4, hq⟩ := Zqu (o := ⟨dst, .slice t x lo hi none, type, pos, after, guard⟩) (s := s1) rfl hρ (e1 ▸ he) hob h
    exact (hq.heap e1.symm e2.symm).behind e3 e4
   ·rename_i m c s1 hw
    obtain ⟨e1, e2, _⟩ := Zbi hw
    exact (Zth (o := ⟨dst, .slice t x lo hi none, type, pos, after, guard⟩) (s := s1) rfl hρ (e1 ▸ he) (e2 ▸ hf) hob h).heap e1.symm e2.symm
   ·cases h
   ·rename_i s1 hw
    obtain ⟨e1, e2, _⟩ := Zbi hw
    split at h
    ·rename_i r hr
     injection h with h
     subst h
     obtain ⟨e1', hq⟩ := ZjV (o := ⟨dst, .slice t x lo hi none, type, pos, after, guard⟩) (s := s1) rfl hρ (e1 ▸ he) hr
     subst e1'
     exact hq.heap e1.symm e2.symm
    ·split at h
     ·rename_i r hr
      injection h with h
      subst h
      exact (Zqs (o := ⟨dst, .slice t x lo hi none, type, pos, after, guard⟩) (s := s1) rfl hρ (e1 ▸ he) hob hr).heap e1.symm e2.symm
     ·obtain ⟨rfl, hr⟩ := Zdw (o := ⟨dst, .slice t x lo hi none, type, pos, after, guard⟩) (s := s1) (fun _ _ e => by cases e) hρ (e1 ▸ he) h
      exact hr.heap e1.symm e2.symm
  ·cases h
 case binOp op t x y yt =>
  by_cases hop : op = .rem
  ·subst hop
   simp only [ev1] at h
   split at h
   ·rename_i s1 hw
    obtain ⟨e1, e2, _⟩ := Zbi hw
    obtain ⟨e3, e4, hr⟩ := ZsA (o := ⟨dst, .binOp .rem t x y yt, type, pos, after, guard⟩) (s := s1) rfl hρ (e1 ▸ he) hob h
    exact (hr.heap e1.symm e2.symm).behind e3 e4
   ·cases h
   ·rename_i s1 hw
    obtain ⟨e1, e2, _⟩ := Zbi hw
    obtain ⟨rfl, hr⟩ := Zi8 (o := ⟨dst, .binOp .rem t x y yt, type, pos, after, guard⟩) (s := s1) rfl hρ (e1 ▸ he) h
    exact hr.heap e1.symm e2.symm
  ·by_cases hl : op = .shl
   ·subst hl
    simp only [ev1] at h
    split at h
    ·rename_i n s1 hw
     obtain ⟨e1, e2, _⟩ := Zbi hw
     obtain ⟨e3, e4, hr⟩ := Zpv (o := ⟨dst, .binOp .shl t x y yt, type, pos, after, guard⟩) (s := s1) rfl hρ (e1 ▸ he) hob h
     exact (hr.heap e1.symm e2.symm).behind e3 e4
    ·cases h
    ·rename_i s1 hw
     obtain ⟨e1, e2, _⟩ := Zbi hw
     obtain ⟨rfl, hr⟩ := Zi8 (o := ⟨dst, .binOp .shl t x y yt, type, pos, after, guard⟩) (s := s1) rfl hρ (e1 ▸ he) h
     exact hr.heap e1.symm e2.symm
   ·by_cases hr : op = .shr
    ·subst hr
     simp only [ev1] at h
     split at h
     ·rename_i n s1 hw
      obtain ⟨e1, e2, _⟩ := Zbi hw
      obtain ⟨e3, e4, hr⟩ := Zpv (o := ⟨dst, .binOp .shr t x y yt, type, pos, after, guard⟩) (s := s1) rfl hρ (e1 ▸ he) hob h
      exact (hr.heap e1.symm e2.symm).behind e3 e4
     ·cases h
     ·rename_i s1 hw
      obtain ⟨e1, e2, _⟩ := Zbi hw
      obtain ⟨rfl, hr⟩ := Zi8 (o := ⟨dst, .binOp .shr t x y yt, type, pos, after, guard⟩) (s := s1) rfl hρ (e1 ▸ he) h
      exact hr.heap e1.symm e2.symm
    ·by_cases ha : op = .add
     ·subst ha
      simp only [ev1] at h
      split at h
      ·obtain ⟨e3, e4, hr⟩ := Ztm (o := ⟨dst, .binOp .add t x y yt, type, pos, after, guard⟩) rfl hρ he hob h
       exact hr.behind e3 e4
      ·obtain ⟨rfl, hr⟩ := Zi8 (o := ⟨dst, .binOp .add t x y yt, type, pos, after, guard⟩) rfl hρ he h
       exact hr
     ·have h : Zis P ρ ⟨dst, .binOp op t x y yt, type, pos, after, guard⟩ op t x y s = some (v, s') := by cases op <;> first | exact h | exact absurd rfl hop | exact absurd rfl hl | exact absurd rfl hr | exact absurd rfl ha
      obtain ⟨rfl, hr⟩ := Zi8 (o := ⟨dst, .binOp op t x y yt, type, pos, after, guard⟩) rfl hρ he h
      exact hr
 case makeSlice t l c =>
  simp only [ev1] at h
  split at h
  ·rename_i n cp cs s1 hw
   obtain ⟨e1, e2, _⟩ := Zbi hw
   obtain ⟨s2, h4, e3, e4⟩ := Zub hob h
   exact ((ZjL (o := ⟨dst, .makeSlice t l c, type, pos, after, guard⟩) (s := s1) rfl hρ (e1 ▸ he) (e2 ▸ e4 ▸ hf) h4).heap e1.symm e2.symm).behind e3 e4
  ·cases h
  ·rename_i s1 hw
   obtain ⟨e1, e2, _⟩ := Zbi hw
   exact (ZjL (o := ⟨dst, .makeSlice t l c, type, pos, after, guard⟩) (s := s1) rfl hρ (e1 ▸ he) (e2 ▸ hf) h).heap e1.symm e2.symm
 case makeFunc fn a b =>
  simp only [ev1, Option.some.injEq, Prod.mk.injEq] at h
  obtain ⟨rfl, rfl⟩ := h
  have h1 := Zjj hρ a
  have h2 := Zjj hρ b
  exact Res.same he (v' := .func fn (a.map ρ') (b.map ρ')) (by simp [execOp, Instr.makeFunc, Result.andThen, Sem.run]) (.func h1.1 h2.1 h1.2 h2.2)
 case makeMap t r =>
  exact Zp8 (o := ⟨dst, .makeMap t r, type, pos, after, guard⟩) rfl hρ he hf h
 case lookup t x ix ok =>
  simp only [ev1] at h
  split at h
  ·rename_i r s1 hw
   obtain ⟨e1, e2, _⟩ := Zbi hw
   obtain ⟨s2, h4, e3, e4⟩ := Zs8 hob h
   obtain ⟨e5, hr⟩ := ZlF (o := ⟨dst, .lookup t x ix ok, type, pos, after, guard⟩) (s := s1) rfl hρ (e1 ▸ he) h4
   subst e5
   exact (hr.heap e1.symm e2.symm).behind e3 e4
  ·cases h
  ·rename_i s1 hw
   obtain ⟨e1, e2, _⟩ := Zbi hw
   obtain ⟨e5, hr⟩ := ZlF (o := ⟨dst, .lookup t x ix ok, type, pos, after, guard⟩) (s := s1) rfl hρ (e1 ▸ he) h
   subst e5
   exact hr.heap e1.symm e2.symm
 case mapUpdate t m k x =>
  simp only [ev1] at h
  split at h
  ·rename_i l s1 hw
   obtain ⟨e1, e2, _⟩ := Zbi hw
   obtain ⟨s2, h4, e3, e4⟩ := Zs9 hob h
   exact ((ZlG (o := ⟨dst, .mapUpdate t m k x, type, pos, after, guard⟩) (s := s1) rfl hρ (e1 ▸ he) h4).heap e1.symm e2.symm).behind e3 e4
  ·cases h
  ·rename_i s1 hw
   obtain ⟨e1, e2, _⟩ := Zbi hw
   exact (ZlG (o := ⟨dst, .mapUpdate t m k x, type, pos, after, guard⟩) (s := s1) rfl hρ (e1 ▸ he) h).heap e1.symm e2.symm
 case makeInterface t x => obtain ⟨rfl, hr⟩ := Zdw (o := ⟨dst, .makeInterface t x, type, pos, after, guard⟩) (fun _ _ e => by cases e) hρ he h; exact hr
 case unOp op t x => obtain ⟨rfl, hr⟩ := Zdw (o := ⟨dst, .unOp op t x, type, pos, after, guard⟩) (fun _ _ e => by cases e) hρ he h; exact hr
 case convert a b x =>
  simp only [ev1] at h
  split at h
  ·split at h
   ·rename_i ns s1 hw
    obtain ⟨e1, e2, _⟩ := Zbi hw
    obtain ⟨e3, e4, hr⟩ := ZoI (o := ⟨dst, .convert a b x, type, pos, after, guard⟩) (s := s1) rfl hρ (e1 ▸ he) hob h
    exact (hr.heap e1.symm e2.symm).behind e3 e4
   ·cases h
   ·rename_i s1 hw
    obtain ⟨e1, e2, _⟩ := Zbi hw
    obtain ⟨e3, hr⟩ := Zlj (o := ⟨dst, .convert a b x, type, pos, after, guard⟩) (s := s1) rfl hρ (e1 ▸ he) h
    subst e3
    exact hr.heap e1.symm e2.symm
  ·split at h
   ·rename_i r hr
    injection h with h
    subst h
    obtain ⟨e1, hq⟩ := Zlj (o := ⟨dst, .convert a b x, type, pos, after, guard⟩) rfl hρ he hr
    subst e1
    exact hq
   ·obtain ⟨rfl, hr⟩ := Zdw (o := ⟨dst, .convert a b x, type, pos, after, guard⟩) (fun _ _ e => by cases e) hρ he h; exact hr
 case call c =>
  simp only [ev1] at h
  split at h
  ·rename_i b hc
   exact Zp9 (o := ⟨dst, .call c, type, pos, after, guard⟩) rfl hc hρ he hf hob h
  ·cases h
 all_goals (simp [ev1] at h)
theorem ZuV {o : Oper} {v v1 : Value} {s1 : St} (h : Zql o v s = (v1, s1)) (hob : ∀ p ∈ s1.ob, p.1 = p.2) : v1 = v ∧ s1.h = s.h ∧ s1.n = s.n := by
 unfold Zql at h
 split at h
 all_goals first
  | (generalize hq : s.tst _ = q at h; obtain ⟨b, s2⟩ := q; simp only [Prod.mk.injEq] at h; obtain ⟨rfl, rfl⟩ := h; obtain ⟨rfl, e1, e2⟩ := ZlA hq hob; exact ⟨rfl, e1, e2⟩)
  | (generalize hq : s.vst _ = q at h; obtain ⟨b, s2⟩ := q; simp only [Prod.mk.injEq] at h; obtain ⟨rfl, rfl⟩ := h; obtain ⟨rfl, e1, e2⟩ := Zvs hq hob; exact ⟨rfl, e1, e2⟩)
  | (simp only [Prod.mk.injEq] at h; obtain ⟨rfl, rfl⟩ := h; exact ⟨rfl, rfl, rfl⟩)
end
end Ev
end Go.Proofs.YtjdojnecmplmnaaGreat
/- The runner against the model: code and calls. -/
namespace Go.Proofs.YtjdojnecmplmnaaGreat
open Go.RowKit
namespace Ev

/-! ### Numbers rise, and answers stay -/
theorem ZbA {a b : List (Bool × Bool)} (h : a <:+ b) (hb : ∀ p ∈ b, p.1 = p.2) : ∀ p ∈ a, p.1 = p.2 := fun p hp => hb p (h.subset hp)
structure Up (s s' : St) : Prop where
 n : s.n ≤ s'.n
 ob : s.ob <:+ s'.ob
 log : ∃ l, s'.wr = l ++ s.wr ∧ ∀ k, k ∉ l → ¬ (s.n ≤ k ∧ k < s'.n) → s'.h.get k = s.h.get k
theorem Up.refl (s : St) : Up s s := ⟨Nat.le_refl _, List.suffix_refl _, [], rfl, fun _ _ _ => rfl⟩
theorem Up.trans {a b c : St} (h : Up a b) (k : Up b c) : Up a c := by
 obtain ⟨l, h1, h2⟩ := h.log
 obtain ⟨m, k1, k2⟩ := k.log
 refine ⟨Nat.le_trans h.n k.n, h.ob.trans k.ob, m ++ l, by rw [k1, h1, List.append_assoc], fun j hj hn => ?_⟩
 have := h.n
 have := k.n
 rw [k2 j (fun e => hj (List.mem_append_left _ e)) (by omega), h2 j (fun e => hj (List.mem_append_right _ e)) (by omega)]
theorem Zi9 {s s1 : St} {t b : Bool} (h : s.tst t = (b, s1)) : Up s s1 := by
 unfold St.tst at h
 split at h <;> (injection h with h1 h2; subst h1 h2)
 ·exact Up.refl _
 ·exact ⟨Nat.le_refl _, List.suffix_refl _, [], rfl, fun _ _ _ => rfl⟩
 ·exact ⟨Nat.le_refl _, List.suffix_cons _ _, [], rfl, fun _ _ _ => rfl⟩
theorem Zvu {s s1 : St} {x y : Int} (h : s.vst x = (y, s1)) : Up s s1 := by
 unfold St.vst at h
 split at h <;> (injection h with h1 h2; subst h1 h2)
 ·exact Up.refl _
 ·exact ⟨Nat.le_refl _, List.suffix_refl _, [], rfl, fun _ _ _ => rfl⟩
 ·exact ⟨Nat.le_refl _, List.suffix_cons _ _, [], rfl, fun _ _ _ => rfl⟩
theorem Zc3 {s s1 : St} {k o : Nat} {l : List Value} (h : Zds s k o l = some s1) : Up s s1 := by
 unfold Zds at h
 split at h
 ·replace h := Zx h
  obtain ⟨_, h⟩ := h
  injection h with h
  subst h
  refine ⟨Nat.le_refl _, List.suffix_refl _, [k], rfl, fun j hj _ => ?_⟩
  show (s.h.set k _).get j = _
  rw [Tr.get_set, Zv (by simpa using hj)]
 ·cases h
section
variable {P : Program} {ρ : Operand → Value} {s s' : St} {v : Value}
theorem Zb9 {o : Oper} (h : Zeu P ρ o s = some (v, s')) : Up s s' := by
 unfold Zeu at h
 replace h := (Zx h).2
 split at h
 ·replace h := (Zx h).2
  injection h with h; injection h with h1 h2; subst h1 h2; exact Up.refl _
 ·cases h
theorem up_add {c : List Value} {t : TypeId} : Up s (s.add c t) := ⟨Nat.le_succ _, List.suffix_refl _, [], rfl, fun j _ hn => by
 show (s.h.set s.n _).get j = _
 rw [Tr.get_set, Zv (fun e => hn ⟨by omega, by show j < s.n + 1; omega⟩)]⟩
theorem up_turn {k : Nat} {c : List Value} {t : TypeId} : Up s (s.turn k c t) := ⟨Nat.le_succ _, List.suffix_refl _, [k], rfl, fun j hj hn => by
 show ((s.h.set k none).set s.n _).get j = _
 rw [Tr.get_set, Zv (fun e => hn ⟨by omega, by show j < s.n + 1; omega⟩), Tr.get_set, Zv (by simpa using hj)]⟩
theorem Zto {t tx : TypeId} {x y : Value} (h : Zd8 P s t tx x y = some (v, s')) : Up s s' := by
 unfold Zd8 at h
 try simp only [cond_eq_ite] at h
 repeat' (split at h)
 all_goals first
  | (cases h; done)
  | (injection h with h; injection h with h1 h2; subst h1 h2; first | exact Up.refl _ | exact up_add | exact up_turn | exact Zc3 (by assumption))
  | exact Zb9 h
theorem ZpA {t n : Nat} {ps : Array (Nat × Operand)} (h : ZfX P ρ t n ps s = some (v, s')) : Up s s' := by
 unfold ZfX at h
 try simp only [cond_eq_ite] at h
 repeat' (split at h)
 all_goals first
  | (cases h; done)
  | (injection h with h; injection h with h1 h2; subst h1 h2; first | exact Up.refl _ | exact up_add | exact up_turn | exact Zc3 (by assumption))
  | exact Zb9 h
theorem Zud {t : Nat} {ps : Array (Nat × Operand)} (h : Zki P ρ t ps s = some (v, s')) : Up s s' := by
 unfold Zki at h
 try simp only [cond_eq_ite] at h
 repeat' (split at h)
 all_goals first
  | (cases h; done)
  | (injection h with h; injection h with h1 h2; subst h1 h2; first | exact Up.refl _ | exact up_add | exact up_turn | exact Zc3 (by assumption))
  | exact Zb9 h
theorem Zue {t : Nat} {a x : Operand} (h : Zig P ρ t a x s = some (v, s')) : Up s s' := by
 unfold Zig at h
 try simp only [cond_eq_ite] at h
 repeat' (split at h)
 all_goals first
  | (cases h; done)
  | (injection h with h; injection h with h1 h2; subst h1 h2; first | exact Up.refl _ | exact up_add | exact up_turn | exact Zc3 (by assumption))
  | exact Zb9 h
theorem Zqz {t f : Nat} {x : Operand} (h : ZgV P ρ t x f s = some (v, s')) : Up s s' := by
 unfold ZgV at h
 try simp only [cond_eq_ite] at h
 repeat' (split at h)
 all_goals first
  | (cases h; done)
  | (injection h with h; injection h with h1 h2; subst h1 h2; first | exact Up.refl _ | exact up_add | exact up_turn | exact Zc3 (by assumption))
  | exact Zb9 h
theorem Zuf {t f : Nat} {x : Operand} (h : Zkk P ρ t x f s = some (v, s')) : Up s s' := by
 unfold Zkk at h
 try simp only [cond_eq_ite] at h
 repeat' (split at h)
 all_goals first
  | (cases h; done)
  | (injection h with h; injection h with h1 h2; subst h1 h2; first | exact Up.refl _ | exact up_add | exact up_turn | exact Zc3 (by assumption))
  | exact Zb9 h
theorem Zug {t : Nat} {x ix : Operand} (h : Zkl P ρ t x ix s = some (v, s')) : Up s s' := by
 unfold Zkl at h
 try simp only [cond_eq_ite] at h
 repeat' (split at h)
 all_goals first
  | (cases h; done)
  | (injection h with h; injection h with h1 h2; subst h1 h2; first | exact Up.refl _ | exact up_add | exact up_turn | exact Zc3 (by assumption))
  | exact Zb9 h
theorem ZlI {t : Nat} {x ix : Operand} (h : ZdS P ρ t x ix s = some (v, s')) : Up s s' := by
 unfold ZdS at h
 try simp only [cond_eq_ite] at h
 repeat' (split at h)
 all_goals first
  | (cases h; done)
  | (injection h with h; injection h with h1 h2; subst h1 h2; first | exact Up.refl _ | exact up_add | exact up_turn | exact Zc3 (by assumption))
  | exact Zb9 h
theorem ZnK {t : Nat} {x : Operand} {lo hi : Option Operand} (h : Zfy P ρ t x lo hi s = some (v, s')) : Up s s' := by
 unfold Zfy at h
 try simp only [cond_eq_ite] at h
 repeat' (split at h)
 all_goals first
  | (cases h; done)
  | (injection h with h; injection h with h1 h2; subst h1 h2; first | exact Up.refl _ | exact up_add | exact up_turn | exact Zc3 (by assumption))
  | exact Zb9 h
theorem Zq0 {t : Nat} {l c : Operand} (h : ZeC P ρ t l c s = some (v, s')) : Up s s' := by
 unfold ZeC at h
 try simp only [cond_eq_ite] at h
 repeat' (split at h)
 all_goals first
  | (cases h; done)
  | (injection h with h; injection h with h1 h2; subst h1 h2; first | exact Up.refl _ | exact up_add | exact up_turn | exact Zc3 (by assumption))
  | exact Zb9 h
theorem Zos {a b : TypeId} {x : Operand} (h : Zh6 P ρ a b x s = some (v, s')) : Up s s' := by
 unfold Zh6 at h
 try simp only [cond_eq_ite] at h
 repeat' (split at h)
 all_goals first
  | (cases h; done)
  | (injection h with h; injection h with h1 h2; subst h1 h2; first | exact Up.refl _ | exact up_add | exact up_turn | exact Zc3 (by assumption))
  | exact Zb9 h
theorem Zq1 {o : Oper} {op : BinOp} {t : TypeId} {x y : Operand} (h : Zis P ρ o op t x y s = some (v, s')) : Up s s' := by
 unfold Zis at h
 split at h
 ·injection h with h; injection h with h1 h2; subst h1 h2; exact Up.refl _
 ·injection h with h; injection h with h1 h2; subst h1 h2; exact Up.refl _
 split at h
 ·rename_i r hr
  injection h with h; subst h
  exact Zb9 hr
 ·split at h <;> first | (cases h; done) | (injection h with h; injection h with h1 h2; subst h1 h2; exact Up.refl _)
theorem ZaT {s s1 : St} {a : Option ZcQ} (h : s.nextW = (a, s1)) : Up s s1 := by
 unfold St.nextW at h
 split at h <;> (injection h with h1 h2; subst h1 h2; exact ⟨Nat.le_refl _, List.suffix_refl _, [], rfl, fun _ _ _ => rfl⟩)
theorem ZaU (q : Bool) : Up s (s.told q) := ⟨Nat.le_refl _, List.suffix_cons _ _, [], rfl, fun _ _ _ => rfl⟩
theorem up_putK {k : Nat} {c : List Value} {t : TypeId} : Up s (s.putK k c t) := ⟨Nat.le_refl _, List.suffix_refl _, [k], rfl, fun j hj _ => by
 show (s.h.set k _).get j = _
 rw [Tr.get_set, Zv (by simpa using hj)]⟩
theorem Ztp {t : Nat} {a x : Operand} {c : List Value} (h : Zjp P ρ t a x c s = some (v, s')) : Up s s' := by
 unfold Zjp at h
 try simp only [cond_eq_ite] at h
 repeat' (split at h)
 all_goals first
  | (cases h; done)
  | (injection h with h; injection h with h1 h2; subst h1 h2; exact up_putK.trans (ZaU _))
theorem ZuW {x y : Operand} (h : Zl6 ρ x y s = some (v, s')) : Up s s' := by
 unfold Zl6 at h
 split at h
 ·injection h with h; injection h with h1 h2; subst h1 h2; exact ZaU _
 ·cases h
theorem Zvv {op : BinOp} {x y : Operand} {n : Nat} (h : ZmS ρ op x y n s = some (v, s')) : Up s s' := by
 unfold ZmS at h
 split at h
 ·injection h with h; injection h with h1 h2; subst h1 h2; exact ZaU _
 ·injection h with h; injection h with h1 h2; subst h1 h2; exact ZaU _
 ·cases h
theorem Ztq {x y : Operand} (h : Zoi ρ x y s = some (v, s')) : Up s s' := by
 unfold Zoi at h
 split at h
 ·injection h with h; injection h with h1 h2; subst h1 h2; exact ZaU _
 ·cases h
theorem Ztr {t : Nat} {x : Operand} {lo hi : Option Operand} {l m : Nat} (h : Zjs P ρ t x lo hi l m s = some (v, s')) : Up s s' := by
 unfold Zjs at h
 try simp only [cond_eq_ite] at h
 repeat' (split at h)
 all_goals first
  | (cases h; done)
  | (injection h with h; injection h with h1 h2; subst h1 h2; exact ((ZaU _).trans (ZaU _)).trans (ZaU _))
theorem Zts {t : Nat} {x : Operand} {lo hi : Option Operand} {l m m2 : Nat} {cs : List Cell} (h : Zjt P ρ t x lo hi l m m2 cs s = some (v, s')) : Up s s' := by
 unfold Zjt at h
 repeat' (split at h)
 all_goals first
  | (cases h; done)
  | (injection h with h; injection h with h1 h2; subst h1 h2; exact ((ZaU _).trans (ZaU _)).trans (ZaU _))
theorem Zr9 {a b : TypeId} {x : Operand} {ns : List Int} (h : ZhH P ρ a b x ns s = some (v, s')) : Up s s' := by
 unfold ZhH at h
 repeat' (split at h)
 all_goals first
  | (cases h; done)
  | (injection h with h; injection h with h1 h2; subst h1 h2; exact ZaU _)
theorem ZuX {t : Nat} {x : Operand} {lo hi : Option Operand} {m : Nat} {c : List Value} (h : Zl4 P ρ t x lo hi m c s = some (v, s')) : Up s s' := by
 unfold Zl4 at h
 try simp only [cond_eq_ite] at h
 repeat' (split at h)
 all_goals first
  | (cases h; done)
  | (injection h with h; injection h with h1 h2; subst h1 h2; exact ((up_turn.trans (ZaU _)).trans (ZaU _)).trans (ZaU _))
theorem Zuh {t : Nat} {l c : Operand} {n cp : Nat} {cs : List Value} (h : Zko P ρ t l c n cp cs s = some (v, s')) : Up s s' := by
 unfold Zko at h
 try simp only [cond_eq_ite] at h
 repeat' (split at h)
 all_goals first
  | (cases h; done)
  | (injection h with h; injection h with h1 h2; subst h1 h2; exact ((up_add.trans (ZaU _)).trans (ZaU _)).trans (ZaU _))
theorem ZsB {t tx : TypeId} {x y : Value} {m : Nat} {l c : List Value} (h : Zkj P s t tx x y m l c = some (v, s')) : Up s s' := by
 unfold Zkj at h
 try simp only [cond_eq_ite] at h
 repeat' (split at h)
 all_goals first
  | (cases h; done)
  | (injection h with h; injection h with h1 h2; subst h1 h2; first | exact up_add.trans (ZaU _) | exact up_turn.trans (ZaU _))
theorem ZrA {t tx : TypeId} {x y : Value} {m : Nat} {l c : List Value} (h : Zjq P s t tx x y m l c = some (v, s')) : Up s s' := by
 unfold Zjq at h
 try simp only [cond_eq_ite] at h
 repeat' (split at h)
 all_goals first
  | (cases h; done)
  | (injection h with h; injection h with h1 h2; subst h1 h2; exact up_putK.trans (ZaU _))
theorem ZrB {t tx : TypeId} {x y : Value} (h : Zjr P s t tx x y = some (v, s')) : Up s s' := by
 unfold Zjr at h
 try simp only [cond_eq_ite] at h
 repeat' (split at h)
 all_goals first
  | (cases h; done)
  | (injection h with h; injection h with h1 h2; subst h1 h2; exact ZaU _)
theorem ZsC {kk : IntKind} {e : Nat} {args : Array Value} {z : Int} {c : List Value} (h : Zi0 kk e args z c s = some (v, s')) : Up s s' := by
 unfold Zi0 at h
 repeat' (split at h)
 all_goals first
  | (cases h; done)
  | (injection h with h; injection h with h1 h2; subst h1 h2; first | exact ZaU _ | exact up_putK.trans (ZaU _) | exact ((ZaU _).trans (Zi9 (by assumption))) | exact (((ZaU _).trans (Zi9 (by assumption))).trans up_putK).trans (ZaU _))
theorem ZuY {O : Obj} : Up s (s.addM O) := ⟨Nat.le_succ _, List.suffix_refl _, [], rfl, fun j _ hn => by
 show (s.h.set s.n _).get j = _
 rw [Tr.get_set, Zv (by intro e; subst e; exact hn ⟨Nat.le_refl _, Nat.lt_succ_self _⟩)]⟩
theorem up_putM {k : Nat} {O : Obj} : Up s (s.putM k O) := ⟨Nat.le_refl _, List.suffix_refl _, [k], rfl, fun j hj _ => by
 show (s.h.set k _).get j = _
 rw [Tr.get_set, Zv (by intro e; subst e; exact hj (List.mem_singleton.2 rfl))]⟩
theorem Zui {t : TypeId} {x : Value} (h : Zkq P s t x = some (v, s')) : Up s s' := by
 unfold Zkq at h
 repeat' (split at h)
 all_goals first
  | (cases h; done)
  | (injection h with h; injection h with h1 h2; subst h1 h2; first | exact Up.refl _ | exact up_putM)
theorem Ztt {t : TypeId} {x k : Value} (h : Zjw P s t x k = some (v, s')) : Up s s' := by
 unfold Zjw at h
 repeat' (split at h)
 all_goals first
  | (cases h; done)
  | skip
 all_goals (replace h := (Zx h).2)
 all_goals first
  | (cases h; done)
  | (injection h with h; injection h with h1 h2; subst h1 h2; exact up_putM)
theorem ZsD {t : TypeId} {r : Option Operand} (h : Zi3 P ρ t r s = some (v, s')) : Up s s' := by
 unfold Zi3 at h
 repeat' (split at h)
 all_goals first
  | (cases h; done)
  | (injection h with h; injection h with h1 h2; subst h1 h2; exact ZuY)
theorem Ztu {t : TypeId} {x ix : Operand} {ok : Bool} (h : Zga P ρ t x ix ok s = some (v, s')) : Up s s' := by
 unfold Zga at h
 repeat' (split at h)
 all_goals first
  | (cases h; done)
  | skip
 all_goals (replace h := (Zx h).2)
 all_goals first
  | (cases h; done)
  | (replace h := (Zx h).2; injection h with h; injection h with h1 h2; subst h1 h2; exact Up.refl _)
theorem ZsE {t : TypeId} {x ix : Operand} {ok : Bool} {r : Option Value} (h : Zi1 P ρ t x ix ok r s = some (v, s')) : Up s s' := by
 unfold Zi1 at h
 repeat' (split at h)
 all_goals first
  | (cases h; done)
  | skip
 all_goals (replace h := (Zx h).2; injection h with h; injection h with h1 h2; subst h1 h2; exact ZaU _)
theorem Ztv {t : TypeId} {m k x : Operand} (h : Zgb P ρ t m k x s = some (v, s')) : Up s s' := by
 unfold Zgb at h
 repeat' (split at h)
 all_goals first
  | (cases h; done)
  | skip
 all_goals (replace h := (Zx h).2)
 all_goals first
  | (cases h; done)
  | (injection h with h; injection h with h1 h2; subst h1 h2; exact up_putM)
theorem ZsF {t : TypeId} {m k x : Operand} {l : List MapEntry} (h : Zi2 P ρ t m k x l s = some (v, s')) : Up s s' := by
 unfold Zi2 at h
 repeat' (split at h)
 all_goals first
  | (cases h; done)
  | skip
 all_goals (replace h := (Zx h).2; injection h with h; injection h with h1 h2; subst h1 h2; exact up_putM.trans (ZaU _))
theorem ZsG {o : Oper} {c : Call} {b : Builtin} (h : Zi4 P ρ o c b s = some (v, s')) : Up s s' := by
 unfold Zi4 at h
 split at h
 ·split at h
  ·split at h
   ·exact (ZaT (by assumption)).trans (ZsB h)
   ·exact (ZaT (by assumption)).trans (ZrA h)
   ·exact (ZaT (by assumption)).trans (ZrB h)
   ·cases h
   ·exact (ZaT (by assumption)).trans (Zto h)
  ·cases h
 ·split at h
  ·split at h
   ·injection h with h; injection h with h1 h2; subst h1 h2; exact Up.refl _
   ·split at h
    ·injection h with h; injection h with h1 h2; subst h1 h2; exact Up.refl _
    ·cases h
   ·exact Zb9 h
  ·cases h
 ·split at h
  ·exact Ztt h
  ·cases h
 ·split at h
  ·exact Zui h
  ·cases h
 ·exact Zb9 h
theorem Zq2 {s s1 : St} {a : Option Nat} (h : s.nextX = (a, s1)) : Up s s1 := by
 unfold St.nextX at h
 split at h <;> (injection h with h1 h2; subst h1 h2)
 ·exact Up.refl _
 ·exact ⟨Nat.le_refl _, List.suffix_refl _, [], rfl, fun _ _ _ => rfl⟩
theorem Zq3 {s s1 : St} {a : Option (List Cell)} (h : s.nextL = (a, s1)) : Up s s1 := by
 unfold St.nextL at h
 split at h <;> (injection h with h1 h2; subst h1 h2)
 ·exact Up.refl _
 ·exact ⟨Nat.le_refl _, List.suffix_refl _, [], rfl, fun _ _ _ => rfl⟩
theorem up_told {s : St} {q : Bool} : Up s (s.told q) := ⟨Nat.le_refl _, List.suffix_cons _ _, [], rfl, fun _ _ _ => rfl⟩
theorem ZpB {t : Nat} {x ix : Operand} {i : Nat} (h : ZfY P ρ t x ix i s = some (v, s')) : Up s s' := by
 unfold ZfY at h
 repeat' (split at h)
 all_goals first
  | (cases h; done)
  | (injection h with h; injection h with h1 h2; subst h1 h2; exact up_told.trans up_told)
theorem Zuj {t : Nat} {a : Operand} {l : List Cell} (h : Zkm P ρ t a l s = some (v, s')) : Up s s' := by
 unfold Zkm at h
 repeat' (split at h)
 all_goals first
  | (cases h; done)
  | (injection h with h; injection h with h1 h2; subst h1 h2; exact up_told)
theorem ZlJ {t : Nat} {x : Operand} {lo hi : Option Operand} (h : Zju P ρ t x lo hi s = some (v, s')) : Up s s' := by
 unfold Zju at h
 split at h
 ·split at h
  ·replace h := (Zx h).2
   split at h
   ·injection h with h; injection h with h1 h2; subst h1 h2; exact Zi9 (by assumption)
   ·cases h
  ·cases h
 ·cases h
theorem ZrX {o : Oper} {t : Nat} {x : Operand} {lo hi : Option Operand} (h : Zsy P ρ o t x lo hi s = some (v, s')) : Up s s' := by
 unfold Zsy at h
 split at h
 ·exact (ZaT (by assumption)).trans (Ztr h)
 ·exact (ZaT (by assumption)).trans (Zts h)
 ·exact (ZaT (by assumption)).trans (ZuX h)
 ·cases h
 ·split at h
  ·injection h with h; subst h; exact (ZaT (by assumption)).trans (ZnK (by assumption))
  ·split at h
   ·injection h with h; subst h; exact (ZaT (by assumption)).trans (ZlJ (by assumption))
   ·exact (ZaT (by assumption)).trans (Zb9 h)
theorem Zvw {o : Oper} (h : ev1 P ρ o s = some (v, s')) : Up s s' := by
 unfold ev1 at h
 split at h
 all_goals first
  | exact ZrX h | exact ZpA h | exact Zud h | exact Zqz h | exact Zuf h | exact ZlI h | exact Zq1 h | exact Ztq h | exact Zb9 h
  | (injection h with h; injection h with h1 h2; subst h1 h2; first | exact Up.refl _ | exact up_add)
  | (cases h; done)
  | skip
 ·split at h
  ·split at h <;> (injection h with h; injection h with h1 h2; subst h1 h2; exact Up.refl _)
  ·cases h
 all_goals (repeat' (split at h))
 all_goals first
  | (cases h; done)
  | exact (ZaT (by assumption)).trans (Ztp h)
  | exact (ZaT (by assumption)).trans (Zue h)
  | exact (ZaT (by assumption)).trans (ZuW h)
  | exact (ZaT (by assumption)).trans (Zvv h)
  | exact (ZaT (by assumption)).trans (Zq1 h)
  | exact Ztq h
  | exact Zq1 h
  | exact ZsD h
  | exact (ZaT (by assumption)).trans (ZsE h)
  | exact (ZaT (by assumption)).trans (Ztu h)
  | exact (ZaT (by assumption)).trans (ZsF h)
  | exact (ZaT (by assumption)).trans (Ztv h)
  | exact ZrX h
  | exact (ZaT (by assumption)).trans (Zuh h)
  | exact (ZaT (by assumption)).trans (Zr9 h)
  | exact (ZaT (by assumption)).trans (Zos h)
  | exact (ZaT (by assumption)).trans (Zq0 h)
  | exact (ZaT (by assumption)).trans (Zb9 h)
  | (injection h with h; subst h; first | exact (ZaT (by assumption)).trans (ZnK (by assumption)) | exact (ZaT (by assumption)).trans (ZlJ (by assumption)))
  | exact (Zq3 (by assumption)).trans (Zuj h)
  | exact (Zq2 (by assumption)).trans (ZpB h)
  | exact (Zq2 (by assumption)).trans (ZlI h)
  | (injection h with h; injection h with h1 h2; subst h1 h2; exact Zq3 (by assumption))
  | exact ZsG h
  | exact Zb9 h
  | (injection h with h; injection h with h1 h2; subst h1 h2; first | exact Up.refl _ | exact up_add)
  | (injection h with h; subst h; first | exact Zug (by assumption) | exact ZnK (by assumption) | exact ZlJ (by assumption) | exact Zos (by assumption))
theorem ZuZ {n : Nat} {args : Array Value} (h : Zl7 n args s = some (v, s')) : Up s s' := by
 unfold Zl7 at h
 split at h
 ·injection h with h; injection h with h1 h2; subst h1 h2; exact Up.refl _
 ·injection h with h; injection h with h1 h2; subst h1 h2; exact Up.refl _
 ·cases h
theorem Ztw {kk : IntKind} {e : Nat} {args : Array Value} (h : Zed kk e args s = some (v, s')) : Up s s' := by
 unfold Zed at h
 repeat' (split at h)
 all_goals first
  | (cases h; done)
  | (injection h with h; injection h with h1 h2; subst h1 h2; first | exact Up.refl _ | exact Zc3 (by assumption) | exact Zi9 (by assumption) | exact (Zi9 (by assumption)).trans (Zc3 (by assumption)))
theorem ZrY {o : Oper} {v1 : Value} {s1 : St} (h : Zql o v s = (v1, s1)) : Up s s1 := by
 unfold Zql at h
 split at h
 all_goals first
  | (generalize hq : s.tst _ = q at h; obtain ⟨b, s2⟩ := q; simp only [Prod.mk.injEq] at h; obtain ⟨rfl, rfl⟩ := h; exact Zi9 hq)
  | (generalize hq : s.vst _ = q at h; obtain ⟨b, s2⟩ := q; simp only [Prod.mk.injEq] at h; obtain ⟨rfl, rfl⟩ := h; exact Zvu hq)
  | (simp only [Prod.mk.injEq] at h; obtain ⟨rfl, rfl⟩ := h; exact Up.refl _)
end
end Ev
end Go.Proofs.YtjdojnecmplmnaaGreat
/- The runner against the model: code and calls. -/
namespace Go.Proofs.YtjdojnecmplmnaaGreat
open Go.RowKit
namespace Ev

def ZmX (P : Program) (ι : Ren) (s : St) (w : World) (v : Value) (s' : St) (e : Ending) (w' : World) : Prop :=
  ∃ v' ι', e = .returned v' ∧ Step P ι s.h.get w ι' s'.h.get w' ∧ Dom ι ι' s.n s'.n ∧ VR ι' v v'
structure ZoJ (P : Program) (f : FuncId) (g : Array Value → St → Out) : Prop where
  body : ∃ (fn : Func) (c : Code), P.funcs[f]? = some fn ∧ fn.body = some c
  up : ∀ args s v s', g args s = some (v, s') → Up s s'
  does : ∀ args s v s', g args s = some (v, s') → (∀ p ∈ s'.ob, p.1 = p.2) → ∀ ι w args', VRs ι args args' → Emb P ι s.h.get w → Fresh ι s.n s'.n → Calls P f args' w (ZmX P ι s w v s')
def ZaB (P : Program) (f : FuncId) (args : Array Value) (pre : List (Nat × AObj)) (v : Value) (post : List (Nat × Option AObj)) (n dn : Nat) : Prop :=
  ∀ ι w args', VRs ι args args' → Emb P ι (fun k => Zb8 k pre) w → Fresh ι n (n + dn) → Calls P f args' w fun e w' => ∃ v' ι', e = .returned v' ∧ Step P ι (fun k => Zb8 k pre) w ι' (behind pre post) w' ∧ Dom ι ι' n (n + dn) ∧ VR ι' v v'
structure Fit (P : Program) (ext : FuncId → Option Ext) : Prop where
  mixed : P.follows .mixedOrders = true
  go : ∀ (f : Nat) (fn : Func), P.funcs[f]? = some fn → (fn.name == "runtime.NumGoroutine") = false
  fn : ∀ (f : Nat) (g : List Value → Option Value), ext f = some (.fn g) → (∃ (fn : Func) (c : Code), P.funcs[f]? = some fn ∧ fn.body = some c) ∧ ∀ (args : Array Value) (v : Value), ZU Zer args.toList = true → g args.toList = some v → ∀ w, Calls P f args w fun e w' => e = .returned v ∧ Below w.heap.size w w'
  hp : ∀ (f : Nat) (g : Array Value → St → Out), ext f = some (.hp g) → ZoJ P f g
  tc : ∀ (f : Nat) (S : Array Value → List (Nat × AObj) → Value → List (Nat × Option AObj) → Nat → Nat → Prop), ext f = some (.tc S) → (∃ (fn : Func) (c : Code), P.funcs[f]? = some fn ∧ fn.body = some c) ∧ ∀ args pre v post n dn, S args pre v post n dn → ZaB P f args pre v post n dn
  mark : ∀ (f : Nat) (n : Nat), ext f = some (.mark n) → ∃ fn : Func, P.funcs[f]? = some fn ∧ fn.body.isNone = true ∧ Extern.findNext fn = none ∧
    (n = 0 ∧ (∃ m : Mark, Extern.find fn = some (fun _ => do mark m; pure Extern.Race.none_)) ∨ n = 1 ∧ ∃ m : Addr → Mark, Extern.find fn = some (Extern.Race.marked m))
  ext : ∀ (f : Nat) (kk : IntKind) (e : Nat), ext f = some (.at kk e) → ∃ fn : Func, P.funcs[f]? = some fn ∧ fn.body.isNone = true ∧ Extern.findNext fn = none ∧
    (e = 0 ∧ Extern.find fn = some (Extern.Atomic.loadT (.int kk)) ∨ e = 1 ∧ Extern.find fn = some Extern.Atomic.storeT ∨
     e = 2 ∧ Extern.find fn = some (Extern.Atomic.update (Op.intArith .add) kk true) ∨ e = 3 ∧ Extern.find fn = some (Extern.Atomic.casT (.int kk)))
section
variable {P : Program} {ext : FuncId → Option Ext}

theorem up_fn {g : List Value → Option Value} {args : Array Value} {s s' : St} {v : Value} (h : Zsz g args s = some (v, s')) : Up s s' := by
  unfold Zsz at h
  replace h := (Zx h).2
  split at h
  · replace h := (Zx h).2
    injection h with h; injection h with h1 h2; subst h1 h2; exact Up.refl _
  · cases h
theorem ZkL {α : Type} {b : Bool} {x : Option α} {y : α} (h : (bif b then none else x) = some y) : b = false ∧ x = some y := by
  cases b with
  | true => simp at h
  | false => exact ⟨rfl, by simpa using h⟩
theorem Zdx {ops : Array Oper} {T : Tr Value} {o : Oper} {s s' : St} {b : Bool} (h : Zfz ops T o s = some (b, s')) : Up s s' := by
  unfold Zfz at h
  split at h
  · injection h with h; injection h with h1 h2; subst h1 h2; exact Up.refl _
  · split at h
    · split at h
      · injection h with h; injection h with h1 h2; subst h1 h2; exact Up.refl _
      · injection h with h; injection h with h1 h2; subst h1 h2; exact Up.refl _
      · cases h
    · cases h
theorem ZjN {h : Tr AObj} (k : Nat) : ∀ (t : List Nat), (ZjK h t).get k = if k ∈ t then h.get k else none
  | [] => by simp [ZjK, Tr.get_nil]
  | j :: t => by
    rw [ZjK, Tr.get_set]
    by_cases hk : k = j
    · subst hk; rw [ZK]; simp
    · rw [Zv hk, ZjN k t]
      simp [hk]
theorem ZdU {r h : Tr AObj} (k : Nat) : ∀ (t : List Nat), (Zfk r t h).get k = if k ∈ t then r.get k else h.get k
  | [] => by simp [Zfk]
  | j :: t => by
    rw [Zfk, Tr.get_set]
    by_cases hk : k = j
    · subst hk; rw [ZK]; simp
    · rw [Zv hk, ZdU k t]
      simp [hk]
section
variable {P : Program}
/-! ### What is elsewhere stays -/
noncomputable def join (h x : AH) : AH := fun k => match h k with | some o => some o | none => x k
theorem Ze0 {h x : AH} {k : Nat} (hk : (h k).isSome) : join h x k = h k := by
  unfold join
  cases he : h k with
  | none => rw [he] at hk; cases hk
  | some o => rfl
theorem Zdy {h x : AH} {k : Nat} (hk : h k = none) : join h x k = x k := by unfold join; rw [hk]
theorem Emb.sub {ι : Ren} {h g : AH} {w : World} (e : Emb P ι g w) (hs : ∀ k o, h k = some o → g k = some o) : Emb P ι h w := by
  have iso : ∀ k, (h k).isSome → (g k).isSome := fun k hk => by
    cases he : h k with
    | none => rw [he] at hk; cases hk
    | some o => rw [hs k o he]; rfl
  have isoC : ∀ k, isC (h k) = true → isC (g k) = true := fun k hk => by
    cases he : h k with
    | none => rw [he] at hk; cases hk
    | some o => rw [hs k o he, ← he]; exact hk
  exact ⟨fun k c t hk => e.obj k c t (hs k _ hk), fun k O hk => e.ro k O (hs k _ hk), fun k k' b b' h1 h2 => e.inj k k' b b' (isoC k h1) (iso k' h2), e.lt, fun b base id q hq => ⟨(e.mks b base id q hq).1, (e.mks b base id q hq).2.1, fun k d hk hd => (e.mks b base id q hq).2.2 k d (isoC k hk) hd⟩⟩
theorem Step.framed {ι ι' : Ren} {h h' x : AH} {w w' : World} (st : Step P ι h w ι' h' w') (e : Emb P ι (join h x) w) (hx : ∀ k, (x k).isSome → h k = none) :
    Step P ι (join h x) w ι' (join h' x) w' := by
  have hl : ∀ k, (h k).isSome → (join h x k).isSome := fun k hk => by rw [Ze0 hk]; exact hk
  have hlC : ∀ k, isC (h k) = true → isC (join h x k) = true := fun k hk => by rw [Ze0 (Zcj hk)]; exact hk
  have xlC : ∀ k, isC (x k) = true → isC (join h x k) = true := fun k hk => by rw [Zdy (hx k (Zcj hk))]; exact hk
  have xl : ∀ k, (x k).isSome → (join h x k).isSome := fun k hk => by rw [Zdy (hx k hk)]; exact hk
  have parts : ∀ k, (join h' x k).isSome → (h' k).isSome ∨ (h' k = none ∧ (x k).isSome) := fun k hk => by
    cases he : h' k with
    | some o => exact .inl rfl
    | none => rw [Zdy he] at hk; exact .inr ⟨rfl, hk⟩
  have partsC : ∀ k, isC (join h' x k) = true → isC (h' k) = true ∨ (h' k = none ∧ isC (x k) = true) := fun k hk => by
    cases he : h' k with
    | some o => rw [Ze0 (by rw [he]; rfl), he] at hk; exact .inl hk
    | none => rw [Zdy he] at hk; exact .inr ⟨rfl, hk⟩
  have xι : ∀ k, (x k).isSome → ∃ b, ι k = some b ∧ ι' k = some b := fun k hk => by
    obtain ⟨b, hb⟩ := e.live (xl k hk)
    exact ⟨b, hb, st.ext k b hb⟩
  refine ⟨st.ext, ⟨fun k c t hk => ?_, fun k O hk => ?_, fun k k' b b' h1 h2 h3 h4 h5 => ?_, st.emb.lt, ?_⟩, st.os, st.tape, st.output, st.size, fun b hb hno => st.frame b hb fun k c hk => hno k c (hlC k hk), fun k b h1 h2 => ?_, fun k h1 h2 => ?_, fun k h1 h2 => ?_⟩
  · rcases parts k (by rw [hk]; rfl) with h1 | ⟨h1, h2⟩
    · rw [Ze0 h1] at hk
      exact st.emb.obj k c t hk
    · rw [Zdy h1] at hk
      obtain ⟨b, C, hb, hB, hC, hQ⟩ := e.obj k c t (by rw [Zdy (hx k h2)]; exact hk)
      refine ⟨b, C, st.ext k b hb, ?_, hC.ext st.ext, hQ⟩
      rw [st.frame b.1 (e.lt k b hb)]
      · exact hB
      · intro j d hj hd he
        have : j = k := e.inj j k d b (hlC j hj) (xl k h2) hd hb he
        subst this
        rw [hx j h2] at hj
        cases hj
  · rcases parts k (by rw [hk]; rfl) with h1 | ⟨h1, h2⟩
    · rw [Ze0 h1] at hk
      exact st.emb.ro k O hk
    · rw [Zdy h1] at hk
      obtain ⟨b, hb, hB⟩ := e.ro k O (by rw [Zdy (hx k h2)]; exact hk)
      refine ⟨b, st.ext k b hb, ?_⟩
      rw [st.frame b.1 (e.lt k b hb)]
      · exact hB
      · intro j d hj hd he
        have : j = k := e.inj j k d b (hlC j hj) (xl k h2) hd hb he
        subst this
        rw [hx j h2] at hj
        cases hj
  · -- one of h', one of x
    have mixed : ∀ {k k' : Nat} {b b' : Nat × Nat}, (h' k).isSome → (x k').isSome → (isC (h' k) = true ∨ isC (x k') = true) → ι' k = some b → ι' k' = some b' → b.1 = b'.1 → k = k' := fun {k k' b b'} h1 h2 hor h3 h4 h5 => by
      obtain ⟨c, hc, hc'⟩ := xι k' h2
      rw [h4] at hc'; injection hc' with hc'; subst hc'
      cases hk : ι k with
      | some d =>
        have e1 := st.ext k d hk
        rw [h3] at e1; injection e1 with e1; subst e1
        rcases hor with hC | hC
        · exact e.inj k k' b b' (hlC k (st.kind k hC (by rw [hk]; simp))) (xl k' h2) hk hc h5
        · exact (e.inj k' k b' b (xlC k' hC) (hl k (st.alive k h1 (by rw [hk]; simp))) hc hk h5.symm).symm
      | none =>
        rcases st.new k b hk h3 with h6 | ⟨j, d, hj, hd, he⟩
        · have := e.lt k' b' hc
          omega
        · have : j = k' := e.inj j k' d b' (hlC j hj) (xl k' h2) hd hc (he.trans h5)
          subst this
          rw [hx j h2] at hj
          cases hj
    rcases partsC k h1 with q1 | ⟨_, q1⟩ <;> rcases parts k' h2 with q2 | ⟨_, q2⟩
    · exact st.emb.inj k k' b b' q1 q2 h3 h4 h5
    · exact mixed (Zcj q1) q2 (.inl q1) h3 h4 h5
    · exact (mixed q2 (Zcj q1) (.inr q1) h4 h3 h5.symm).symm
    · obtain ⟨c, hc, hc'⟩ := xι k (Zcj q1)
      obtain ⟨d, hd, hd'⟩ := xι k' q2
      rw [h3] at hc'; injection hc' with hc'; subst hc'
      rw [h4] at hd'; injection hd' with hd'; subst hd'
      exact e.inj k k' b b' (xlC k q1) (xl k' q2) hc hd h5
  · intro b base id q hq
    obtain ⟨m1, m2, m3⟩ := st.emb.mks b base id q hq
    refine ⟨m1, m2, fun k d hk hd => ?_⟩
    rcases partsC k hk with q1 | ⟨_, q1⟩
    · exact m3 k d q1 hd
    · obtain ⟨c, hc, hc'⟩ := xι k (Zcj q1)
      rw [hd] at hc'; injection hc' with hc'; subst hc'
      cases hm : ι (Zbp b base id) with
      | some q' => exact (e.mks b base id q' hm).2.2 k d (xlC k q1) hc
      | none =>
        rcases st.new _ q hm hq with h6 | ⟨j, c', hj, hc'', he⟩
        · have := e.lt k d hc
          omega
        · intro hdb
          have : j = k := e.inj j k c' d (hlC j hj) (xl k (Zcj q1)) hc'' hc (by omega)
          subst this
          rw [hx j (Zcj q1)] at hj
          cases hj
  · rcases st.new k b h1 h2 with h3 | ⟨j, c, hj, hc⟩
    · exact .inl h3
    · exact .inr ⟨j, c, hlC j hj, hc⟩
  · rcases parts k h1 with q1 | ⟨_, q1⟩
    · exact hl k (st.alive k q1 h2)
    · exact xl k q1
  · rcases partsC k h1 with q1 | ⟨_, q1⟩
    · exact hlC k (st.kind k q1 h2)
    · exact xlC k q1

end
theorem ZlK (h : Tr AObj) : ∀ (l : List (Nat × Option AObj)) (k : Nat), (ZmU h l).get k = match Zb8 k l with | some o => o | none => h.get k
  | [], k => rfl
  | x :: l, k => by
    show ((ZmU h l).set x.1 x.2).get k = _
    rw [Tr.get_set]
    unfold Zb8
    by_cases hk : k = x.1
    · subst hk
      rw [ZK, Nat.beq_refl]
      rfl
    · rw [Zv hk, ZlK h l k, ZhL (fun e => hk e.symm)]
      rfl
theorem Zjz {α : Type} {k : Nat} {o : α} : ∀ {l : List (Nat × α)}, Zb8 k l = some o → (k, o) ∈ l
  | [], h => by cases h
  | x :: l, h => by
    unfold Zb8 at h
    cases hb : Nat.beq x.1 k with
    | true =>
      rw [hb] at h
      injection h with h
      have := Nat.eq_of_beq_eq_true hb
      obtain ⟨a, b⟩ := x
      subst this h
      exact List.mem_cons_self
    | false =>
      rw [hb] at h
      exact List.mem_cons_of_mem _ (Zjz h)
theorem Zn4 {pre : List (Nat × AObj)} {n n' : Nat} : ∀ {post : List (Nat × Option AObj)}, Zoj pre n n' post = true → ∀ k o, Zb8 k post = some o → (Zb8 k pre).isSome ∨ (o.isSome ∧ n ≤ k ∧ k < n')
  | [], _, k, o, h => by cases h
  | x :: l, hk, k, o, h => by
    simp only [Zoj, Bool.and_eq_true, Bool.or_eq_true] at hk
    unfold Zb8 at h
    cases hb : Nat.beq x.1 k with
    | true =>
      rw [hb] at h
      injection h with h
      have := Nat.eq_of_beq_eq_true hb
      subst this h
      rcases hk.1 with h1 | ⟨h0, h1, h2⟩
      · exact .inl h1
      · exact .inr ⟨h0, Nat.le_of_ble_eq_true h1, Nat.le_of_ble_eq_true h2⟩
    | false => rw [hb] at h; exact Zn4 hk.2 k o h
theorem Zku {s : St} : ∀ (l : List (Nat × AObj)), s.ob <:+ ZmV s l
  | [] => List.suffix_refl _
  | x :: l => (Zku l).trans (List.suffix_cons _ _)
theorem Zn5 {s : St} : ∀ {l : List (Nat × AObj)} {x : Nat × AObj}, x ∈ l → (AObj.sameAs (s.h.get x.1) x.2, true) ∈ ZmV s l
  | y :: l, x, h => by
    rcases List.mem_cons.1 h with rfl | h
    · exact List.mem_cons_self
    · exact List.mem_cons_of_mem _ (Zn5 h)
theorem ZrC {o : Option AObj} {p : AObj} (h : AObj.sameAs o p = true) : o = some p := by
  unfold AObj.sameAs at h
  split at h
  · rename_i c t c' t'
    cases hb : Nat.beq t t' with
    | true =>
      rw [hb] at h
      rw [Nat.eq_of_beq_eq_true hb, Zbc.1 h]
    | false => rw [hb] at h; cases h
  · rw [Zbc.1 h]
  · rw [Zbc.1 h]
  · cases h
theorem Zva {S : Array Value → List (Nat × AObj) → Value → List (Nat × Option AObj) → Nat → Nat → Prop} {args : Array Value} {pre : List (Nat × AObj)} {u v : Value} {post : List (Nat × Option AObj)} {dn : Nat} {s s' : St} (h : Zqm S args pre u post dn s = some (v, s')) : Up s s' := by
  unfold Zqm at h
  replace h := (Zx h).2
  injection h with h
  injection h with h1 h2
  subst h1 h2
  refine ⟨Nat.le_add_right _ _, (Zku pre).trans (List.suffix_cons _ _), _, rfl, fun k hk _ => ?_⟩
  show (ZmU s.h post).get k = _
  rw [ZlK]
  cases hl : Zb8 k post with
  | none => rfl
  | some o => exact absurd (List.mem_map.2 ⟨_, Zjz hl, rfl⟩) hk
theorem ZsH {P : Program} {f : FuncId} {S : Array Value → List (Nat × AObj) → Value → List (Nat × Option AObj) → Nat → Nat → Prop} (hS : ∀ args pre v post n dn, S args pre v post n dn → ZaB P f args pre v post n dn) {args args' : Array Value} {pre : List (Nat × AObj)} {u v : Value} {post : List (Nat × Option AObj)} {dn : Nat} {s s' : St} (h : Zqm S args pre u post dn s = some (v, s')) (ho : ∀ p ∈ s'.ob, p.1 = p.2)
    {ι : Ren} {w : World} (ha : VRs ι args args') (he : Emb P ι s.h.get w) (hf : Fresh ι s.n s'.n) : Calls P f args' w (ZmX P ι s w v s') := by
  unfold Zqm at h
  obtain ⟨hg, h⟩ := Zx h
  simp only [Bool.and_eq_true] at hg
  injection h with h
  injection h with h1 h2
  subst h1 h2
  have hc := hS _ _ _ _ _ _ (Zbc.1 (ho _ List.mem_cons_self))
  have hpre : ∀ k o, Zb8 k pre = some o → s.h.get k = some o := fun k o hk => ZrC (ho (AObj.sameAs (s.h.get k) o, true) (List.mem_cons_of_mem _ (Zn5 (x := (k, o)) (Zjz hk))))
  let x : AH := fun k => if (Zb8 k pre).isSome then none else s.h.get k
  have hx : ∀ k, (x k).isSome → (fun k => Zb8 k pre) k = none := fun k hk => by
    show Zb8 k pre = none
    cases hl : Zb8 k pre with
    | none => rfl
    | some o => simp [x, hl] at hk
  have e1 : join (fun k => Zb8 k pre) x = s.h.get := funext fun k => by
    cases hl : Zb8 k pre with
    | none => rw [Zdy hl]; simp [x, hl]
    | some o => rw [Ze0 (h := fun k => Zb8 k pre) (by simp [hl])]; simp only [hl]; exact (hpre k o hl).symm
  have e2 : join (behind pre post) x = (ZmU s.h post).get := funext fun k => by
    rw [ZlK]
    cases hl : Zb8 k post with
    | some o =>
      cases o with
      | some o =>
        have hb : behind pre post k = some o := by unfold behind; rw [hl]
        rw [Ze0 (by rw [hb]; rfl), hb]
      | none =>
        have hb : behind pre post k = none := by unfold behind; rw [hl]
        rw [Zdy hb]
        rcases Zn4 hg.1 k none hl with h1 | ⟨h1, _⟩
        · simp [x, h1]
        · cases h1
    | none =>
      have hb : behind pre post k = Zb8 k pre := by unfold behind; rw [hl]
      cases hp : Zb8 k pre with
      | none => rw [Zdy (by rw [hb, hp])]; simp [x, hp]
      | some o => rw [Ze0 (by rw [hb, hp]; rfl), hb, hp]; exact (hpre k o hp).symm
  refine (hc ι w args' ha (he.sub fun k o hk => hpre k o hk) hf).mono ?_
  rintro e w' ⟨v', ι', rfl, g1, g2, g3⟩
  have := g1.framed (x := x) (by rw [e1]; exact he) hx
  rw [e1, e2] at this
  exact ⟨v', ι', rfl, this, g2, g3⟩
theorem Zd4 (hup : ∀ (f : Nat) (g : Array Value → St → Out), ext f = some (.hp g) → ∀ args s v s', g args s = some (v, s') → Up s s') : ∀ fu : Nat, (∀ nt c T s e T' s', ZaR P ext nt fu c T s = some (e, T', s') → Up s s') ∧ (∀ nt ops l T s T' s', ZhK P ext nt fu ops l T s = some (T', s') → Up s s') ∧
    (∀ ρ o s v s', Zhj P ext fu ρ o s = some (v, s') → Up s s') ∧ (∀ f args s v s', ZeU P ext fu f args s = some (v, s') → Up s s') ∧ (∀ nt ops done l T s es T' s', Zey P ext nt fu ops done l T s = some (es, T', s') → Up s s') ∧ (∀ xs ρ o s v s' r, ZiX P ext fu xs ρ o s = some (v, s', r) → Up s s') := by
  intro fu
  induction fu with
  | zero => exact ⟨fun _ _ _ _ _ _ _ h => by simp [ZaR] at h, fun _ _ _ _ _ _ _ h => by simp [ZhK, St.keep_eq] at h, fun _ _ _ _ _ h => by simp [Zhj] at h, fun _ _ _ _ _ h => by simp [ZeU] at h, fun _ _ _ _ _ _ _ _ _ h => by simp [Zey, St.keep_eq] at h, fun _ _ _ _ _ _ _ h => by simp [ZiX] at h⟩
  | succ fu ih =>
    obtain ⟨ihC, ihO, ihP, ihF, ihD, ihE⟩ := ih
    refine ⟨fun nt c T s e T' s' h => ?_, fun nt ops l T s T' s' h => ?_, fun ρ o s v s' h => ?_, fun f args s v s' h => ?_, fun nt ops done l T s es T' s' h => ?_, fun xs ρ o s v s' r h => ?_⟩
    · cases c <;> simp only [ZaR] at h
      case skip => injection h with h; simp only [Prod.mk.injEq] at h; obtain ⟨_, _, rfl⟩ := h; exact Up.refl _
      case label l => injection h with h; simp only [Prod.mk.injEq] at h; obtain ⟨_, _, rfl⟩ := h; exact Up.refl _
      case scope c => exact ihC _ _ _ _ _ _ _ h
      case ret => injection h with h; simp only [Prod.mk.injEq] at h; obtain ⟨_, _, rfl⟩ := h; exact Up.refl _
      case exit id => injection h with h; simp only [Prod.mk.injEq] at h; obtain ⟨_, _, rfl⟩ := h; exact Up.refl _
      case seq a b =>
        split at h
        · exact (ihC _ _ _ _ _ _ _ (by assumption)).trans (ihC _ _ _ _ _ _ _ h)
        · injection h with h; simp only [Prod.mk.injEq] at h; obtain ⟨_, _, rfl⟩ := h; exact ihC _ _ _ _ _ _ _ (by assumption)
        · injection h with h; simp only [Prod.mk.injEq] at h; obtain ⟨_, _, rfl⟩ := h; exact ihC _ _ _ _ _ _ _ (by assumption)
        · cases h
      case cond x a b =>
        split at h
        · split at h
          · exact ihC _ _ _ _ _ _ _ h
          · exact ihC _ _ _ _ _ _ _ h
        · cases h
      case block id a =>
        split at h
        · rename_i i T1 s1 h1
          cases hb : Nat.beq i id <;> rw [hb] at h <;> (injection h with h; simp only [Prod.mk.injEq] at h; obtain ⟨_, _, rfl⟩ := h; exact ihC _ _ _ _ _ _ _ (by assumption))
        · injection h with h; simp only [Prod.mk.injEq] at h; obtain ⟨_, _, rfl⟩ := h; exact ihC _ _ _ _ _ _ _ (by assumption)
        · injection h with h; simp only [Prod.mk.injEq] at h; obtain ⟨_, _, rfl⟩ := h; exact ihC _ _ _ _ _ _ _ (by assumption)
        · cases h
      case loop a =>
        split at h
        · exact (ihC _ _ _ _ _ _ _ (by assumption)).trans (ihC _ _ _ _ _ _ _ h)
        · injection h with h; simp only [Prod.mk.injEq] at h; obtain ⟨_, _, rfl⟩ := h; exact ihC _ _ _ _ _ _ _ (by assumption)
        · injection h with h; simp only [Prod.mk.injEq] at h; obtain ⟨_, _, rfl⟩ := h; exact ihC _ _ _ _ _ _ _ (by assumption)
        · cases h
      case region id ops draw =>
        cases draw with
        | true =>
          simp only [cond_true] at h
          split at h
          · injection h with h; simp only [Prod.mk.injEq] at h; obtain ⟨_, _, rfl⟩ := h; exact ihD _ _ _ _ _ _ _ _ _ (by assumption)
          · cases h
        | false =>
          simp only [cond_false] at h
          split at h
          · injection h with h; simp only [Prod.mk.injEq] at h; obtain ⟨_, _, rfl⟩ := h; exact ihO _ _ _ _ _ _ _ (by assumption)
          · cases h
      all_goals cases h
    · cases l with
      | nil => simp only [ZhK, St.keep_eq] at h; injection h with h; simp only [Prod.mk.injEq] at h; obtain ⟨_, rfl⟩ := h; exact Up.refl _
      | cons o l =>
        simp only [ZhK, St.keep_eq] at h
        replace h := (Zx h).2
        split at h
        · split at h
          · exact (Zdx (by assumption)).trans ((ihP _ _ _ _ _ (by assumption)).trans (ihO _ _ _ _ _ _ _ h))
          · cases h
        · exact (Zdx (by assumption)).trans (ihO _ _ _ _ _ _ _ h)
        · cases h
    · simp only [Zhj] at h
      split at h
      · split at h
        · split at h
          · split at h
            · exact (ZaT (by assumption)).trans (ZsC h)
            · cases h
            · exact (ZaT (by assumption)).trans (Ztw h)
          · exact ZuZ h
          · exact hup _ _ (by assumption) _ _ _ _ h
          · split at h
            · exact (ZaT (by assumption)).trans (Zva h)
            · cases h
          · exact up_fn h
          · exact ihF _ _ _ _ _ h
        · cases h
      · split at h
        · rename_i v1 s1 h1
          injection h with h
          exact (Zvw h1).trans (ZrY h)
        · cases h
    · simp only [ZeU] at h
      split at h
      · split at h
        · replace h := (Zx h).2
          split at h
          · cases h
          · split at h
            · injection h with h; simp only [Prod.mk.injEq] at h; obtain ⟨_, rfl⟩ := h; exact ihC _ _ _ _ _ _ _ (by assumption)
            · injection h with h; simp only [Prod.mk.injEq] at h; obtain ⟨_, rfl⟩ := h; exact ihC _ _ _ _ _ _ _ (by assumption)
            · cases h
          · cases h
        · cases h
      · cases h
    · cases l with
      | nil => simp only [Zey, St.keep_eq] at h; injection h with h; simp only [Prod.mk.injEq] at h; obtain ⟨_, _, rfl⟩ := h; exact Up.refl _
      | cons o l =>
        simp only [Zey, St.keep_eq] at h
        replace h := (Zx h).2
        split at h
        · split at h
          · replace h := (Zx h).2
            exact (Zdx (by assumption)).trans ((ihE _ _ _ _ _ _ _ (by assumption)).trans (ihD _ _ _ _ _ _ _ _ _ h))
          · cases h
        · replace h := (Zx h).2
          exact (Zdx (by assumption)).trans (ihD _ _ _ _ _ _ _ _ _ h)
        · cases h
    · simp only [ZiX] at h
      split at h
      · split at h
        · rename_i v1 s1 h1
          obtain ⟨hg, h⟩ := Zx h
          injection h with h; simp only [Prod.mk.injEq] at h; obtain ⟨_, rfl, _⟩ := h
          have u := ihP _ _ _ _ _ h1
          obtain ⟨l, e1, e2⟩ := u.log
          simp only [List.append_nil] at e1
          refine ⟨u.n, u.ob, l, by rw [e1], fun k hk hn => ?_⟩
          show (Zfk _ _ _).get k = _
          rw [ZdU]
          split
          · rfl
          · rename_i hm
            rw [e2 k hk hn]
            show (Zfk _ _ _).get k = _
            rw [ZdU, if_neg hm]
        · cases h
      · replace h := (Zx h).2
        generalize (Zh7 s ρ o).1 = w at h
        generalize (Zh7 s ρ o).2 = t at h
        generalize Zkr ρ o = q at h
        split at h
        · rename_i v1 s1 h1
          obtain ⟨hg, h⟩ := Zx h
          injection h with h; simp only [Prod.mk.injEq] at h; obtain ⟨_, rfl, _⟩ := h
          have u := ihP _ _ _ _ _ h1
          obtain ⟨l, e1, e2⟩ := u.log
          simp only [List.append_nil] at e1
          refine ⟨u.n, u.ob, l, by rw [e1], fun k hk hn => ?_⟩
          show (Tr.set _ _ _).get k = _
          rw [Tr.get_set]
          by_cases hkn : k = s.n
          · subst hkn
            rw [ZK]
            have hn' : ¬ s.n < s1.n := fun e => hn ⟨Nat.le_refl _, e⟩
            have : s1.n = s.n := by have := u.n; simp only at this; omega
            rw [ZhM this]
            rfl
          · rw [Zv hkn]
            cases w with
            | false => rfl
            | true =>
              simp only [cond_true]
              rw [ZdU]
              split
              · rename_i hm
                rw [e2 k hk hn, ZjN, if_pos (List.mem_append_left _ hm)]
              · rfl
        · cases h
end
end Ev
end Go.Proofs.YtjdojnecmplmnaaGreat
/- The runner against the model: what it says holds in every world. -/
namespace Go.Proofs.YtjdojnecmplmnaaGreat
open Go.RowKit
namespace Ev
section
variable {P : Program} {ext : FuncId → Option Ext}

def Ex.out : Ex → Exit
 | .normal => .normal
 | .exit id => .exit id
 | .ret => .ret
def TR (ι : Ren) (nt : Nat) (D : List Deferred) (T : Tr Value) (a : Act) : Prop := a.tmps.size = nt ∧ a.defers = D ∧ ∀ t, VR ι ((T.get t).getD undef) (a.tmps.getD t undef)
theorem TR.on {ι ι' : Ren} {nt : Nat} {D : List Deferred} {T : Tr Value} {a : Act} (h : TR ι nt D T a) (hi : ∀ k b, ι k = some b → ι' k = some b) : TR ι' nt D T a := ⟨h.1, h.2.1, fun t => (h.2.2 t).ext hi⟩
theorem VR.undef' {ι : Ren} : VR ι undef undef := VR.of_free rfl
theorem TR.put {ι : Ren} {nt : Nat} {D : List Deferred} {T : Tr Value} {a : Act} (h : TR ι nt D T a) {dst : Option Tmp} (hd : Zhh nt dst = true) {v v' : Value} (hv : VR ι v v') : TR ι nt D (ZeD T dst v) (a.put dst v') := by
 cases dst with
 | none => exact h
 | some d =>
  have hlt : d < a.tmps.size := by
   rw [h.1]
   simpa [Zhh, Nat.blt_eq] using hd
  refine ⟨by simp [Act.put, h.1], h.2.1, fun t => ?_⟩
  simp only [ZeD, Tr.get_set, Act.put]
  by_cases ht : t = d
  ·subst ht
   rw [ZK]
   simp [Array.getD, hlt]
   exact hv
  ·rw [Zv ht]
   have : (a.tmps.setIfInBounds d v').getD t undef = a.tmps.getD t undef := by
    simp [Array.getD_eq_getD_getElem?, Array.getElem?_setIfInBounds_ne (fun e => ht e.symm)]
   rw [this]
   exact h.2.2 t
def Zdf (a : Act) : Operand → Value
 | .const v => bif Zer v then v else undef
 | x => a.eval x
theorem TR.opnd {ι : Ren} {nt : Nat} {D : List Deferred} {T : Tr Value} {a : Act} (h : TR ι nt D T a) (x : Operand) : VR ι (Ev.opnd T x) (Zdf a x) := by
 cases x with
 | tmp t => exact h.2.2 t
 | const v =>
  simp only [Ev.opnd, Zdf]
  cases hf : Zer v
  ·exact VR.undef'
  ·exact VR.of_free hf
 | global g => exact .glob rfl
 | func f => exact .atom rfl
theorem ZiA {a : Act} {o : Oper} (hs : ∀ cs b, o.op ≠ .select cs b) (hg : ZU ZgU o.op.operands.toList = true) : execOp (Zdf a) o = execOp a.eval o :=
 execOp_congr o hs fun x hx => by
  have := Zbl hg x (by simpa using hx)
  cases x with
  | const v =>
   simp only [ZgU] at this
   simp [Zdf, this, Act.eval]
  | _ => rfl
theorem Zfn {a : Act} {x : Operand} {t : Bool} (h : Zdf a x = .bool t) : a.eval x = .bool t := by
 cases x with
 | const v =>
  simp only [Zdf] at h
  cases hf : Zer v <;> rw [hf] at h
  ·simp [undef] at h
  ·exact h
 | _ => exact h
theorem ZeX {ι : Ren} {T : Tr Value} {a : Act} {ops : Array Oper} {o : Oper} {s s' : St} {b : Bool} (h : ∀ t ∈ o.looksAt ops, VR ι ((T.get t).getD undef) (a.tmps.getD t undef)) (hw : Zfz ops T o s = some (b, s')) :
  Region.wanted o (yielded ops a.tmps) = b ∧ s'.h = s.h ∧ s'.n = s.n := by
 unfold Zfz at hw
 unfold Region.wanted
 split at hw
 ·rename_i hg
  injection hw with hw; injection hw with h1 h2; subst h1 h2
  rw [hg]
  exact ⟨rfl, rfl, rfl⟩
 ·rename_i j want hg
  rw [hg]
  simp only
  split at hw
  ·rename_i d hd
   have hv := h d (by unfold Oper.looksAt; rw [hg]; simp [hd])
   split at hw
   ·rename_i q hq
    rw [hq] at hv
    have hv' := hv.bool_inv
    have hget : a.tmps[d]? = some (.bool q) := by
     simp only [Array.getD_eq_getD_getElem?] at hv'
     cases hx : a.tmps[d]? with
     | none => rw [hx] at hv'; simp [undef] at hv'
     | some u => rw [hx] at hv'; simpa using hv'
    have hy : yielded ops a.tmps j = some q := by
     unfold yielded
     rw [hd]
     simp [hget]
    rw [hy]
    injection hw with hw; injection hw with h1 h2; subst h1 h2
    exact ⟨by cases q <;> cases want <;> rfl, rfl, rfl⟩
   ·rename_i u hq
    injection hw with hw; injection hw with h1 h2; subst h1 h2
    rw [hq] at hv
    refine ⟨?_, rfl, rfl⟩
    have hy : yielded ops a.tmps j = none := by
     unfold yielded
     rw [hd]
     simp only [Option.bind_some]
     split
     ·rename_i c hc
      exfalso
      simp only [Array.getD_eq_getD_getElem?, hc, Option.getD_some] at hv
      cases hv
     ·rfl
    rw [hy]
    rfl
   ·cases hw
  ·cases hw
def Zkv (tmps : Array Value) : ResultVar → Sem Value
 | .tmp t => pure (tmps.getD t undef)
 | .cell b t => do loadVar t (← asAddr (tmps.getD b undef))
theorem ZiM {ι : Ren} {nt : Nat} {D : List Deferred} {T : Tr Value} {a : Act} {s : St} {w : World} (h : TR ι nt D T a) (he : Emb P ι s.h.get w) : ∀ (rs : List ResultVar) (l : List Value), Zcz P T s rs = some l →
  ∃ l' : List Value, (rs.mapM (Zkv a.tmps)).run P w = .ok l' w ∧ l.length = l'.length ∧ ∀ (i : Nat) x y, l[i]? = some x → l'[i]? = some y → VR ι x y
 | [], l, hr => by
  simp only [Zcz, Option.some.injEq] at hr
  subst hr
  exact ⟨[], by simp [Sem.run], rfl, fun i x y hx => by simp at hx⟩
 | .tmp t :: rs, l, hr => by
  simp only [Zcz] at hr
  split at hr
  ·rename_i r hr'
   injection hr with hr
   subst hr
   obtain ⟨l', h1, h2, h3⟩ := ZiM h he rs r hr'
   refine ⟨a.tmps.getD t undef :: l', ?_, by simp [h2], fun i x y hx hy => ?_⟩
   ·have e0 : (Zkv a.tmps (.tmp t)).run P w = .ok (a.tmps.getD t undef) w := rfl
    simp only [List.mapM_cons, Sem.run_bind, e0, Result.andThen, h1]
    rfl
   ·cases i with
    | zero => simp at hx hy; subst hx hy; simpa using h.2.2 t
    | succ i => exact h3 i x y (by simpa using hx) (by simpa using hy)
  ·cases hr
 | .cell b t :: rs, l, hr => by
  simp only [Zcz] at hr
  split at hr
  ·rename_i k o hb
   split at hr
   ·rename_i u r hu hr'
    injection hr with hr
    subst hr
    obtain ⟨l', h1, h2, h3⟩ := ZiM h he rs r hr'
    obtain ⟨bk, v', hbk, hrun, hv⟩ := Zli he hu
    have hp := h.2.2 b
    rw [hb] at hp
    obtain ⟨bk', hbk', hp'⟩ := hp.ptr_inv
    rw [hbk] at hbk'; injection hbk' with hbk'; subst hbk'
    refine ⟨v' :: l', ?_, by simp [h2], fun i x y hx hy => ?_⟩
    ·have e0 : (Zkv a.tmps (.cell b t)).run P w = .ok v' w := by
      simp [Zkv, hp', asAddr, hrun, -Array.getD_eq_getD_getElem?]
     simp only [List.mapM_cons, Sem.run_bind, e0, Result.andThen, h1]
     rfl
    ·cases i with
     | zero => simp at hx hy; subst hx hy; exact hv
     | succ i => exact h3 i x y (by simpa using hx) (by simpa using hy)
   ·cases hr
  ·cases hr
theorem ZdV {ι : Ren} {nt : Nat} {D : List Deferred} {T : Tr Value} {a : Act} {s : St} {w : World} {fn : Func} {v : Value} (h : TR ι nt D T a) (he : Emb P ι s.h.get w)
  (hr : (match Zcz P T s fn.results.toList with | some [v] => some v | some vs => some (.tuple vs.toArray) | none => none) = some v) : ∃ v', (results fn a.tmps).run P w = .ok v' w ∧ VR ι v v' := by
 have hR : results fn a.tmps = (do let vs ← fn.results.mapM (Zkv a.tmps); pure (if h : vs.size = 1 then vs[0] else .tuple vs)) := rfl
 cases hx : Zcz P T s fn.results.toList with
 | none => rw [hx] at hr; cases hr
 | some l =>
  rw [hx] at hr
  obtain ⟨l', h1, h2, h3⟩ := ZiM h he fn.results.toList l hx
  have hA : (fn.results.mapM (Zkv a.tmps)).run P w = .ok l'.toArray w := by
   rw [Array.mapM_eq_mapM_toList]
   simp [h1]
  rw [hR]
  rcases l with _ | ⟨x, _ | ⟨y, l⟩⟩
  ·injection hr with hr
   subst hr
   have : l' = [] := List.eq_nil_of_length_eq_zero (by simpa using h2.symm)
   subst this
   exact ⟨.tuple #[], by simp [hA], .tuple rfl fun i x y hx => by simp at hx⟩
  ·injection hr with hr
   subst hr
   rcases l' with _ | ⟨x', _ | ⟨y', l'⟩⟩
   ·simp at h2
   ·exact ⟨x', by simp [hA], h3 0 x x' rfl rfl⟩
   ·simp at h2
  ·injection hr with hr
   subst hr
   have hne : ¬ l'.length = 1 := by simp at h2; omega
   exact ⟨.tuple l'.toArray, by simp [hA, hne], .tuple (by simpa using h2) fun i x y hx hy => h3 i x y (by simpa using hx) (by simpa using hy)⟩
end
end Ev
end Go.Proofs.YtjdojnecmplmnaaGreat
/- The runner against the model: what it says holds in every world. -/
namespace Go.Proofs.YtjdojnecmplmnaaGreat
open Go.RowKit
namespace Ev
section
variable {P : Program} {ext : FuncId → Option Ext}

theorem Zeb {f : FuncId} {fn : Func} {c : Code} (hf : P.funcs[f]? = some fn) (hn : (fn.name == "runtime.NumGoroutine") = false) (hb : fn.body = some c) (args : Array Value) (w : World) :
  (callFunc f args).run P w = .ok (.enter f args) w := by
 have h1 : fn.name ≠ "runtime.NumGoroutine" := by simpa using hn
 simp [callFunc, hf, h1, hb]
theorem Zvb {ι : Ren} {s : St} {w : World} (he : Emb P ι s.h.get w) {k o : Nat} {kk : IntKind} {v : Int} (h : Zex s k o 1 = some [.int kk v]) : ∃ b C t, ι k = some b ∧ w.heap[b.1]? = some (.cells C t (0, 0)) ∧ w.cell? ⟨b.1, o, none⟩ = some (.int kk v) ∧ w.frozen? ⟨b.1, o, none⟩ = false := by
 obtain ⟨b, C, t, hb, hB, hl, hx⟩ := ZkH he h
 obtain ⟨y, hy, hv⟩ := hx 0 _ rfl
 refine ⟨b, C, t, hb, hB, ?_, by simp only [World.frozen?, hB]; simp⟩
 rw [cell_of_row w b.1 o C t (0, 0) hB]
 simpa [hv.int_inv] using hy
theorem ZoK {w : World} {b o : Nat} {C : Array Value} {t : TypeId} {x : Value} (hB : w.heap[b]? = some (.cells C t (0, 0))) (ho : o < C.size) : w.setRow b (C.toList.take o ++ [x] ++ C.toList.drop (o + 1)).toArray = w.setCell ⟨b, o, none⟩ x := by
 have e : (C.toList.take o ++ [x] ++ C.toList.drop (o + 1)).toArray = C.setIfInBounds o x := by
  apply Array.ext'
  simp only [Array.toList_setIfInBounds]
  rw [List.set_eq_take_append_cons_drop, if_pos (by simpa using ho)]
  simp
 rw [e]
 unfold World.setRow World.setCell
 congr 1
 apply Array.ext
 ·simp
 ·intro i h1 h2
  simp only [Array.getElem_modify]
  split
  ·rename_i hi
   subst hi
   have hlt : b < w.heap.size := (Array.getElem?_eq_some_iff.1 hB).1
   have : w.heap[b] = .cells C t (0, 0) := by
    have := Array.getElem?_eq_getElem hlt
    rw [hB] at this
    exact (Option.some.inj this).symm
   simp [this]
  ·rfl
theorem ZlL {ι : Ren} {s s' : St} {w : World} (he : Emb P ι s.h.get w) {k o : Nat} {x : Int} {kk : IntKind} (h : Zds s k o [.int kk x] = some s') {b : Nat × Nat} (hb : ι k = some b) :
  Step P ι s.h.get w ι s'.h.get (w.setCell ⟨b.1, o, none⟩ (.int kk x)) ∧ s'.n = s.n := by
 obtain ⟨b2, w', hb2, _, hstep, hn, ⟨C, t, hB, hfit, hw⟩, _⟩ := ZiL he (c := #[.int kk x]) h rfl (fun i a b h1 h2 => by
  rcases i with _ | i
  ·simp at h1 h2; subst h1 h2; exact .atom rfl
  ·simp at h1)
 rw [hb] at hb2; injection hb2 with hb2; subst hb2
 have ho : o < C.size := by simp at hfit; omega
 have : w' = w.setCell ⟨b.1, o, none⟩ (.int kk x) := by
  rw [hw]
  exact ZoK hB ho
 rw [← this]
 exact ⟨hstep, hn⟩
theorem ZsI (F : Fit P ext) {f n : Nat} (hx : ext f = some (.mark n)) {ι : Ren} {w : World} {s s' : St} {args args' : Array Value} {v : Value} (ha : VRs ι args args') (he : Emb P ι s.h.get w) (h : Zl7 n args s = some (v, s')) :
  Res P ((callFunc f args').run P w) s ι w v s' := by
 obtain ⟨fn, hf, hb, hn, hk⟩ := F.mark f n hx
 have hname := F.go f fn hf
 unfold Zl7 at h
 split at h
 ·rename_i hargs
  injection h with h; injection h with h1 h2; subst h1 h2
  have hA : args' = #[] := by
   have := ha.1
   rw [← Array.length_toList, hargs] at this
   exact Array.eq_empty_of_size_eq_zero this.symm
  rcases hk with ⟨_, m, hk⟩ | ⟨h, _⟩
  ·exact Res.same he (v' := .tuple #[]) (by rw [hA]; exact run_call_mark0 hf hname hb hn m hk w) (VR.of_free rfl)
  ·omega
 ·rename_i k o hargs
  injection h with h; injection h with h1 h2; subst h1 h2
  have hsz : args'.size = 1 := by rw [← ha.1, ← Array.length_toList, hargs]; rfl
  have h0 : args[0]? = some (.pointer (some ⟨k, o, none⟩)) := by
   have : args.toList[0]? = some (.pointer (some ⟨k, o, none⟩)) := by rw [hargs]; rfl
   simpa using this
  have hv := ha.2 0 _ args'[0] h0 (Array.getElem?_eq_getElem (by omega))
  obtain ⟨b, hb2, hp⟩ := hv.ptr_inv
  have hA : args' = #[.pointer (some ⟨b.1, o, none⟩)] := by
   apply Array.ext (by simpa using hsz)
   intro i h3 h4
   have : i = 0 := by omega
   subst this
   simpa using hp
  rcases hk with ⟨h, _⟩ | ⟨_, m, hk⟩
  ·omega
  ·exact Res.same he (v' := .tuple #[]) (by rw [hA]; exact run_call_marked hf hname hb hn m hk _ w) (VR.of_free rfl)
 ·cases h
theorem ZlM (F : Fit P ext) {f e : Nat} {kk : IntKind} (hx : ext f = some (.at kk e)) {ι : Ren} {w : World} {s s' : St} {args args' : Array Value} {v : Value} (ha : VRs ι args args') (he : Emb P ι s.h.get w) (ho : ∀ p ∈ s'.ob, p.1 = p.2) (h : Zed kk e args s = some (v, s')) :
  Res P ((callFunc f args').run P w) s ι w v s' := by
 obtain ⟨fn, hf, hb, hn, hk⟩ := F.ext f kk e hx
 have hname := F.go f fn hf
 clear hx
 have get : ∀ {i : Nat} {x : Value}, args.toList[i]? = some x → ∃ y, args'[i]? = some y ∧ VR ι x y := fun {i x} hi => by
  have hi' : args[i]? = some x := by simpa using hi
  have hlt : i < args'.size := by rw [← ha.1]; exact (Array.getElem?_eq_some_iff.1 hi').1
  exact ⟨args'[i], Array.getElem?_eq_getElem hlt, ha.2 i x _ hi' (Array.getElem?_eq_getElem hlt)⟩
 have arr : ∀ {l : List Value}, args'.size = l.length → (∀ (i : Nat) (y : Value), l[i]? = some y → args'[i]? = some y) → args' = l.toArray := fun {l} h1 h2 => by
  apply Array.ext (by simpa using h1)
  intro i h3 h4
  have := h2 i l[i] (List.getElem?_eq_getElem (by simpa using h4))
  rw [Array.getElem?_eq_getElem h3] at this
  simpa using Option.some.inj this
 unfold Zed at h
 split at h
 ·rename_i k o r hargs
  split at h
  ·rename_i ck vv hrow
   split at h
   ·rename_i hck
    subst hck
    obtain ⟨b, C, t, hbk, hB, hc, hz⟩ := Zvb he hrow
    obtain ⟨y0, hy0, hv0⟩ := get (i := 0) (by rw [hargs]; rfl)
    obtain ⟨b', hb', rfl⟩ := hv0.ptr_inv
    rw [hbk] at hb'; injection hb' with hb'; subst hb'
    have hsz : args'.size = r.length + 1 := by rw [← ha.1, ← Array.length_toList, hargs]; rfl
    split at h
    ·injection h with h; injection h with h1 h2; subst h1 h2
     have hA : args' = #[.pointer (some ⟨b.1, o, none⟩)] := arr (l := [_]) (by simpa using hsz) fun i y hi => by
      rcases i with _ | i
      ·simp at hi; subst hi; exact hy0
      ·simp at hi
     rcases hk with ⟨_, hk⟩ | ⟨h, _⟩ | ⟨h, _⟩ | ⟨h, _⟩ <;> try omega
     exact Res.same he (v' := .int ck vv) (by rw [hA]; exact run_call_load hf hname hb hn _ hk hc) (.atom rfl)
    ·rename_i xk x
     split at h
     ·rename_i hxk
      subst hxk
      split at h
      ·rename_i s1 hw
       injection h with h; injection h with h1 h2; subst h1 h2
       obtain ⟨y1, hy1, hv1⟩ := get (i := 1) (by rw [hargs]; rfl)
       have := hv1.int_inv
       subst this
       have hA : args' = #[.pointer (some ⟨b.1, o, none⟩), .int _ x] := arr (l := [_, _]) (by simpa using hsz) fun i y hi => by
        rcases i with _ | _ | i
        ·simp at hi; subst hi; exact hy0
        ·simp at hi; subst hi; exact hy1
        ·simp at hi
       rcases hk with ⟨h, _⟩ | ⟨_, hk⟩ | ⟨h, _⟩ | ⟨h, _⟩ <;> try omega
       obtain ⟨q1, q2⟩ := ZlL he hw hbk
       exact ⟨_, _, ι, .tuple #[], by rw [hA]; exact run_call_store hf hname hb hn hk hc hz, .inl rfl, q1, q2 ▸ Dom.refl, VR.of_free rfl⟩
      ·cases h
     ·cases h
    ·rename_i xk d
     split at h
     ·rename_i hxk
      subst hxk
      split at h
      ·rename_i s1 hw
       injection h with h; injection h with h1 h2; subst h1 h2
       obtain ⟨y1, hy1, hv1⟩ := get (i := 1) (by rw [hargs]; rfl)
       have := hv1.int_inv
       subst this
       have hA : args' = #[.pointer (some ⟨b.1, o, none⟩), .int _ d] := arr (l := [_, _]) (by simpa using hsz) fun i y hi => by
        rcases i with _ | _ | i
        ·simp at hi; subst hi; exact hy0
        ·simp at hi; subst hi; exact hy1
        ·simp at hi
       rcases hk with ⟨h, _⟩ | ⟨h, _⟩ | ⟨_, hk⟩ | ⟨h, _⟩ <;> try omega
       obtain ⟨q1, q2⟩ := ZlL he hw hbk
       exact ⟨_, _, ι, .int _ _, by rw [hA]; exact run_call_add hf hname hb hn _ hk hc hz (by simp [Op.intArith]), .inl rfl, q1, q2 ▸ Dom.refl, .atom rfl⟩
      ·cases h
     ·cases h
    ·rename_i xk x yk y
     split at h
     ·rename_i hxy
      obtain ⟨hxk, hyk⟩ := hxy
      subst hxk
      subst hyk
      obtain ⟨y1, hy1, hv1⟩ := get (i := 1) (by rw [hargs]; rfl)
      have := hv1.int_inv
      subst this
      obtain ⟨y2, hy2, hv2⟩ := get (i := 2) (by rw [hargs]; rfl)
      have := hv2.int_inv
      subst this
      have hA : args' = #[.pointer (some ⟨b.1, o, none⟩), .int _ x, .int _ y] := arr (l := [_, _, _]) (by simpa using hsz) fun i z hi => by
       rcases i with _ | _ | _ | i
       ·simp at hi; subst hi; exact hy0
       ·simp at hi; subst hi; exact hy1
       ·simp at hi; subst hi; exact hy2
       ·simp at hi
      rcases hk with ⟨h, _⟩ | ⟨h, _⟩ | ⟨h, _⟩ | ⟨_, hk⟩ <;> try omega
      split at h
      ·rename_i s1 hs
       split at h
       ·rename_i s2 hw
        injection h with h; injection h with h1 h2; subst h1 h2
        obtain ⟨e1, e2, e3⟩ := ZlA hs (ZbA (Zc3 hw).ob ho)
        have hvx : vv = x := by simpa using e1.symm
        subst hvx
        obtain ⟨q1, q2⟩ := ZlL (e2 ▸ he) hw hbk
        exact ⟨_, _, ι, .bool true, by rw [hA]; exact run_call_cas_hit hf hname hb hn _ hk hc hz, .inl rfl, e2 ▸ q1, (q2.trans e3) ▸ Dom.refl, .atom rfl⟩
       ·cases h
      ·rename_i s1 hs
       injection h with h; injection h with h1 h2; subst h1 h2
       obtain ⟨e1, e2, e3⟩ := ZlA hs ho
       have hvx : vv ≠ x := by simpa using e1.symm
       exact Res.heap (s := s1) (Res.same (e2 ▸ he) (v' := .bool false) (by rw [hA]; exact run_call_cas_miss hf hname hb hn _ hk hc hz hvx) (.atom rfl)) e2.symm e3.symm
     ·cases h
    ·cases h
   ·cases h
  ·cases h
 ·cases h
theorem ZsJ {kk : IntKind} {e : Nat} {args : Array Value} {z : Int} {c' : List Value} {s s' : St} {v : Value} (hob : ∀ p ∈ s'.ob, p.1 = p.2) (h : Zi0 kk e args z c' s = some (v, s')) (hw : s.orc.w = s.orc.w) :
  ∃ s0 s1, Zed kk e args s0 = some (v, s1) ∧ s0.h = s.h ∧ s0.n = s.n ∧ s'.h = s1.h ∧ s'.n = s1.n ∧ ∀ p ∈ s1.ob, p.1 = p.2 := by
 unfold Zi0 at h
 split at h
 ·rename_i k o r hargs
  split at h
  ·rename_i c t hk
   split at h
   ·injection h with h
    injection h with h1 h2
    subst h1 h2
    have q := Zbc.1 (hob (_, true) List.mem_cons_self)
    refine ⟨s, s, ?_, rfl, rfl, rfl, rfl, fun p hp => hob p (List.mem_cons_of_mem _ hp)⟩
    unfold Zed
    rw [hargs]
    simp only [Zex, hk, q, if_true]
   ·rename_i xk x
    split at h
    ·rename_i hxk
     subst hxk
     injection h with h
     injection h with h1 h2
     subst h1 h2
     obtain ⟨q, q1, q2⟩ := Zbc.1 (hob (_, true) List.mem_cons_self)
     refine ⟨s, s.putK k c' t, ?_, rfl, rfl, rfl, rfl, fun p hp => hob p (List.mem_cons_of_mem _ hp)⟩
     unfold Zed
     rw [hargs]
     simp only [Zex, hk, q, if_true, Zds, List.length_cons, List.length_nil, Nat.zero_add, Nat.ble_eq_true_of_le q1, ZU, ZbR, Bool.and_self, cond_true, q2]
    ·cases h
   ·rename_i xk d
    split at h
    ·rename_i hxk
     subst hxk
     injection h with h
     injection h with h1 h2
     subst h1 h2
     obtain ⟨q, q1, q2⟩ := Zbc.1 (hob (_, true) List.mem_cons_self)
     refine ⟨s, s.putK k c' t, ?_, rfl, rfl, rfl, rfl, fun p hp => hob p (List.mem_cons_of_mem _ hp)⟩
     unfold Zed
     rw [hargs]
     simp only [Zex, hk, q, if_true, Zds, List.length_cons, List.length_nil, Nat.zero_add, Nat.ble_eq_true_of_le q1, ZU, ZbR, Bool.and_self, cond_true, q2]
    ·cases h
   ·rename_i xk x yk y
    split at h
    ·rename_i hxy
     obtain ⟨hxk, hyk⟩ := hxy
     subst hxk
     subst hyk
     generalize hs0 : s.told (dP (Z3 1 (c.drop o) = some [.int _ z])) = s0 at h
     have e0 : s0.h = s.h := by rw [← hs0]; rfl
     have en : s0.n = s.n := by rw [← hs0]; rfl
     have em : (dP (Z3 1 (c.drop o) = some [.int yk z]), true) ∈ s0.ob := by rw [← hs0]; exact List.mem_cons_self
     split at h
     ·rename_i s1 hs
      injection h with h
      injection h with h1 h2
      subst h1 h2
      have ho1 : ∀ p ∈ s1.ob, p.1 = p.2 := fun p hp => hob p (List.mem_cons_of_mem _ hp)
      obtain ⟨q1, q2⟩ := Zbc.1 (hob (_, true) List.mem_cons_self)
      obtain ⟨e1, e2, e3⟩ := ZlA hs ho1
      have q := Zbc.1 (ho1 (_, true) ((Zi9 hs).ob.subset em))
      refine ⟨s0, s1.putK k c' t, ?_, e0, en, rfl, rfl, ho1⟩
      unfold Zed
      rw [hargs]
      have hk1 : s1.h.get k = some (.cells c t) := by rw [e2, e0]; exact hk
      simp only [Zex, e0, hk, q, and_self, if_true, hs, Zds, hk1, List.length_cons, List.length_nil, Nat.zero_add, Nat.ble_eq_true_of_le q1, ZU, ZbR, Bool.and_self, cond_true, q2]
     ·rename_i s1 hs
      injection h with h
      injection h with h1 h2
      subst h1 h2
      have q := Zbc.1 (hob (_, true) ((Zi9 hs).ob.subset em))
      refine ⟨s0, s1, ?_, e0, en, rfl, rfl, hob⟩
      unfold Zed
      rw [hargs]
      simp only [Zex, e0, hk, q, and_self, if_true, hs]
    ·cases h
   ·cases h
  ·cases h
 ·cases h
end
end Ev
end Go.Proofs.YtjdojnecmplmnaaGreat
/- A region that draws its order: what is elsewhere stays, and which operations may change places. -/
namespace Go.Proofs.YtjdojnecmplmnaaGreat
open Go.RowKit
namespace Ev
section
variable {P : Program} {ext : FuncId → Option Ext}

/-! ### What an operation turns -/
noncomputable def Dk (r : Rec) (k : Nat) : Bool := (r.w && ZjU k r.t) || (Nat.ble r.n0 k && Nat.blt k r.n1)
noncomputable def Kof (e : Ent) : AH := if e.r.small then (ZjK e.s.h (e.r.t ++ e.r.q)).get else (Zfk .nil e.r.q e.s.h).get
noncomputable def Zq4 (e : Ent) : AH := fun k => if Dk e.r k then e.s'.h.get k else Kof e k
theorem Zhk {k : Nat} : ∀ {l : List Nat}, ZjU k l = true ↔ k ∈ l
 | [] => by simp [ZjU]
 | x :: l => by
  simp only [ZjU, Bool.or_eq_true, List.mem_cons, Zhk (l := l)]
  constructor
  ·rintro (h | h)
   ·exact .inl (Nat.eq_of_beq_eq_true h)
   ·exact .inr h
  ·rintro (h | h)
   ·exact .inl (ZhM h)
   ·exact .inr h
theorem ZoL {α : Type} {p : α → Bool} : ∀ {l : List α}, (∀ x ∈ l, p x = true) → ZU p l = true
 | [], _ => rfl
 | x :: l, h => by simp [ZU, h x (by simp), ZoL (l := l) fun y hy => h y (by simp [hy])]
theorem ZdC {a b : List Nat} (h : ZhI a b = true) {k : Nat} (ha : k ∈ a) (hb : k ∈ b) : False := by
 have := Zbl h k ha
 rw [Zhk.2 hb] at this
 cases this
theorem Zf0 {n0 n1 : Nat} {l : List Nat} (h : Zks n0 n1 l = true) {k : Nat} (hk : k ∈ l) (h1 : n0 ≤ k) (h2 : k < n1) : False := by
 have := Zbl h k hk
 rw [Nat.ble_eq_true_of_le h1, show Nat.blt k n1 = true from Nat.ble_eq_true_of_le h2] at this
 cases this
theorem ZeY {r : Rec} {k : Nat} : Dk r k = true ↔ (r.w = true ∧ k ∈ r.t) ∨ (r.n0 ≤ k ∧ k < r.n1) := by
 unfold Dk
 simp only [Bool.or_eq_true, Bool.and_eq_true, Zhk]
 constructor
 ·rintro (h | ⟨h1, h2⟩)
  ·exact .inl h
  ·exact .inr ⟨Nat.le_of_ble_eq_true h1, Nat.le_of_ble_eq_true h2⟩
 ·rintro (h | ⟨h1, h2⟩)
  ·exact .inl h
  ·exact .inr ⟨Nat.ble_eq_true_of_le h1, Nat.ble_eq_true_of_le h2⟩
structure Zot (r : Rec) : Prop where
 lt : ∀ k ∈ r.t, k < r.n0
 ltq : ∀ k ∈ r.q, k < r.n0
 le : r.n0 ≤ r.n1
 big : r.small = false → r.w = true
 qt : r.small = false → ∀ k ∈ r.t, k ∉ r.q
noncomputable def Zq5 (a b : Rec) : Prop := (a.small = true → ∀ k ∈ a.t ++ a.q, Dk b k = false) ∧ (a.small = false → ∀ k, k < a.n0 → k ∉ a.q → Dk b k = false)
theorem ZrD {a b : Rec} (h : Zok a b = true) (ha : Zot a) (hb : Zot b) (hab : a.n1 ≤ b.n0) : Zq5 a b ∧ Zq5 b a ∧ ∀ k, Dk a k = true → Dk b k = true → False := by
 have la := ha.le
 have lb := hb.le
 unfold Zok at h
 have nd : ∀ {r : Rec} {k : Nat}, ¬ ((r.w = true ∧ k ∈ r.t) ∨ (r.n0 ≤ k ∧ k < r.n1)) → Dk r k = false := fun {r k} hn => by
  cases hd : Dk r k
  ·rfl
  ·exact absurd (ZeY.1 hd) hn
 split at h
 ·rename_i h1 h2
  simp only [Bool.and_eq_true, Bool.or_eq_true] at h
  obtain ⟨⟨hw, hn⟩, ⟨hq1, hq2⟩, hnq⟩ := h
  have conf : ∀ k, k ∈ a.t → k ∈ b.t → a.w = true ∨ b.w = true → False := fun k k1 k2 k3 => by
   rcases hw with hw | hw
   ·rcases k3 with k3 | k3 <;> rw [k3] at hw <;> simp at hw
   ·exact ZdC hw k1 k2
  refine ⟨⟨fun _ k hk => nd ?_, fun e => absurd (h1.symm.trans e) (by decide)⟩, ⟨fun _ k hk => nd ?_, fun e => absurd (h2.symm.trans e) (by decide)⟩, fun k k1 k2 => ?_⟩
  ·rcases List.mem_append.1 hk with hk | hk
   ·rintro (⟨q1, q2⟩ | ⟨q1, q2⟩)
    ·exact conf k hk q2 (.inr q1)
    ·have := ha.lt k hk; omega
   ·rintro (⟨q1, q2⟩ | ⟨q1, q2⟩)
    ·rcases hq1 with h | h
     ·rw [q1] at h; simp at h
     ·exact ZdC h hk q2
    ·have := ha.ltq k hk; omega
  ·rcases List.mem_append.1 hk with hk | hk
   ·rintro (⟨q1, q2⟩ | ⟨q1, q2⟩)
    ·exact conf k q2 hk (.inl q1)
    ·exact Zf0 hn hk q1 q2
   ·rintro (⟨q1, q2⟩ | ⟨q1, q2⟩)
    ·rcases hq2 with h | h
     ·rw [q1] at h; simp at h
     ·exact ZdC h q2 hk
    ·exact Zf0 hnq hk q1 q2
  ·rcases ZeY.1 k1 with ⟨q1, q2⟩ | ⟨q1, q2⟩ <;> rcases ZeY.1 k2 with ⟨r1, r2⟩ | ⟨r1, r2⟩
   ·exact conf k q2 r2 (.inl q1)
   ·have := ha.lt k q2; omega
   ·exact Zf0 hn r2 q1 q2
   ·omega
 ·rename_i h1 h2
  simp only [Bool.and_eq_true, Bool.not_eq_true', Bool.or_eq_true] at h
  obtain ⟨⟨⟨hw, hn⟩, hap⟩, haq⟩ := h
  have na : ∀ k, Dk a k = true → (k ∈ b.q ∧ a.n0 ≤ k ∧ k < a.n1 ∧ k ∉ b.t) := fun k hd => by
   rcases ZeY.1 hd with ⟨q1, q2⟩ | ⟨q1, q2⟩
   ·rw [hw] at q1; cases q1
   ·rcases hn with hn | ⟨⟨h3, h4⟩, h5⟩
    ·have := Nat.eq_of_beq_eq_true hn; omega
    ·have h4 := Nat.le_of_ble_eq_true h4
     obtain rfl : k = a.n0 := by omega
     exact ⟨Zhk.1 h3, q1, q2, fun hb => Zf0 h5 hb q1 q2⟩
  have nb : ∀ k, k ∉ b.q → Dk a k = false := fun k hk => by
   cases hd : Dk a k
   ·rfl
   ·exact absurd (na k hd).1 hk
  refine ⟨⟨fun _ k hk => nd ?_, fun e => absurd (h1.symm.trans e) (by decide)⟩, ⟨fun e => absurd (h2.symm.trans e) (by decide), fun _ k _ hk => nb k hk⟩, fun k k1 k2 => ?_⟩
  rotate_left
  ·obtain ⟨_, q1, q2, q3⟩ := na k k1
   rcases ZeY.1 k2 with ⟨_, r2⟩ | ⟨r1, r2⟩
   ·exact q3 r2
   ·omega
  rcases List.mem_append.1 hk with hk | hk
  ·rintro (⟨q1, q2⟩ | ⟨q1, q2⟩)
   ·exact ZdC hap hk q2
   ·have := ha.lt k hk; omega
  ·rintro (⟨q1, q2⟩ | ⟨q1, q2⟩)
   ·exact ZdC haq hk q2
   ·have := ha.ltq k hk; omega
 ·rename_i h1 h2
  simp only [Bool.and_eq_true, Bool.not_eq_true'] at h
  obtain ⟨⟨⟨hw, hap⟩, hn⟩, haq, hnq⟩ := h
  refine ⟨⟨fun e => absurd (h1.symm.trans e) (by decide), fun _ k hk _ => nd ?_⟩, ⟨fun _ k hk => nd ?_, fun e => absurd (h2.symm.trans e) (by decide)⟩, fun k k1 k2 => ?_⟩
  ·rintro (⟨q1, q2⟩ | ⟨q1, q2⟩)
   ·rw [hw] at q1; cases q1
   ·omega
  ·rcases List.mem_append.1 hk with hk | hk
   ·rintro (⟨q1, q2⟩ | ⟨q1, q2⟩)
    ·exact ZdC hap q2 hk
    ·exact Zf0 hn hk q1 q2
   ·rintro (⟨q1, q2⟩ | ⟨q1, q2⟩)
    ·exact ZdC haq q2 hk
    ·exact Zf0 hnq hk q1 q2
  ·rcases ZeY.1 k2 with ⟨r1, r2⟩ | ⟨r1, r2⟩
   ·rw [hw] at r1; cases r1
   ·rcases ZeY.1 k1 with ⟨q1, q2⟩ | ⟨q1, q2⟩
    ·have := ha.lt k q2; omega
    ·omega
 ·cases h
end
end Ev
end Go.Proofs.YtjdojnecmplmnaaGreat
/- A region that draws its order: what the run in the text's order tells. -/
namespace Go.Proofs.YtjdojnecmplmnaaGreat
open Go.RowKit
namespace Ev
section
variable {P : Program} {ext : FuncId → Option Ext}

structure EntOk (P : Program) (ext : FuncId → Option Ext) (nt fu : Nat) (ops : Array Oper) (before : List Ent) (T T' : Tr Value) (s s' : St) (e : Ent) : Prop where
 eT : e.T = T
 eT' : T' = ZeD T e.o.dst e.v
 es' : s' = e.s'
 dst : Zhh nt e.o.dst = true
 good : ZU ZgU e.o.op.operands.toList = true
 edges : Zkt before.length e.o.after.toList = true
 em : e.m = Zd9 before e.o.after.toList
 pairs : Zjh ops e.o e.r e.m 0 before = true
 run : ∃ b, Zfz ops T e.o s = some (b, e.s) ∧ (b = true → ∃ fu', fu' < fu ∧ ∃ xs, ZiX P ext fu' xs (opnd (ZmW T (ZhJ e.o.op.operands.toList))) e.o e.s = some (e.v, e.s', e.r)) ∧ (b = false → e.v = undef ∧ e.s' = e.s ∧ e.r = ZiK e.s)
theorem EntOk.fuel {nt fu fu1 : Nat} {ops : Array Oper} {before : List Ent} {T T' : Tr Value} {s s' : St} {e : Ent} (h : EntOk P ext nt fu ops before T T' s s' e) (hf : fu ≤ fu1) : EntOk P ext nt fu1 ops before T T' s s' e :=
 ⟨h.eT, h.eT', h.es', h.dst, h.good, h.edges, h.em, h.pairs, by
  obtain ⟨b, h1, h2, h3⟩ := h.run
  exact ⟨b, h1, fun hb => (by obtain ⟨fu', h4, h5⟩ := h2 hb; exact ⟨fu', Nat.lt_of_lt_of_le h4 hf, h5⟩), h3⟩⟩
theorem Zou (nt : Nat) (ops : Array Oper) : ∀ (fu : Nat) (l : List Oper) (done : List Ent) (T : Tr Value) (s : St) (es : List Ent) (T' : Tr Value) (s' : St), Zey P ext nt fu ops done l T s = some (es, T', s') →
  ∃ (es2 : List Ent) (σ : Nat → St) (τ : Nat → Tr Value), es = done ++ es2 ∧ es2.map (·.o) = l ∧ σ 0 = s ∧ τ 0 = T ∧ σ l.length = s' ∧ τ l.length = T' ∧
   ∀ (i : Nat) (e : Ent), es2[i]? = some e → EntOk P ext nt fu ops (done ++ es2.take i) (τ i) (τ (i + 1)) (σ i) (σ (i + 1)) e
 | 0, _, _, _, _, _, _, _, h => by simp [Zey, St.keep_eq] at h
 | fu + 1, [], done, T, s, es, T', s', h => by
  simp only [Zey, St.keep_eq] at h
  injection h with h
  simp only [Prod.mk.injEq] at h
  obtain ⟨rfl, rfl, rfl⟩ := h
  exact ⟨[], fun _ => s, fun _ => T, by simp, rfl, rfl, rfl, rfl, rfl, fun i e hi => by simp at hi⟩
 | fu + 1, o :: l, done, T, s, es, T', s', h => by
  simp only [Zey, St.keep_eq] at h
  obtain ⟨hg, h⟩ := Zx h
  simp only [Bool.and_eq_true] at hg
  have go : ∀ (e1 : Ent), EntOk P ext nt (fu + 1) ops done T (ZeD T e1.o.dst e1.v) s e1.s' e1 → e1.o = o → Zey P ext nt fu ops (done ++ [e1]) l (ZeD T e1.o.dst e1.v) e1.s' = some (es, T', s') →
    ∃ (es2 : List Ent) (σ : Nat → St) (τ : Nat → Tr Value), es = done ++ es2 ∧ es2.map (·.o) = o :: l ∧ σ 0 = s ∧ τ 0 = T ∧ σ (o :: l).length = s' ∧ τ (o :: l).length = T' ∧
     ∀ (i : Nat) (e : Ent), es2[i]? = some e → EntOk P ext nt (fu + 1) ops (done ++ es2.take i) (τ i) (τ (i + 1)) (σ i) (σ (i + 1)) e := fun e1 hok ho hrec => by
   obtain ⟨es2, σ, τ, h1, h2, h3, h4, h5, h6, h7⟩ := Zou nt ops fu l _ _ _ es T' s' hrec
   refine ⟨e1 :: es2, fun i => match i with | 0 => s | i + 1 => σ i, fun i => match i with | 0 => T | i + 1 => τ i, by rw [h1]; simp, by simp [h2, ho], rfl, rfl, by simpa using h5, by simpa using h6, fun i e hi => ?_⟩
   cases i with
   | zero =>
    simp at hi
    subst hi
    simp only [List.take_zero, List.append_nil, h3, h4]
    exact hok
   | succ i =>
    have := (h7 i e (by simpa using hi)).fuel (Nat.le_succ fu)
    simpa using this
  split at h
  ·rename_i s1 hw
   split at h
   ·rename_i v s2 r hv
    obtain ⟨hp, h⟩ := Zx h
    exact go ⟨o, Zd9 done o.after.toList, r, T, s1, v, s2⟩ ⟨rfl, rfl, rfl, hg.1.1, hg.1.2, hg.2, rfl, hp, true, hw, fun _ => ⟨fu, Nat.lt_succ_self _, _, hv⟩, (fun e => by cases e)⟩ rfl h
   ·cases h
  ·rename_i s1 hw
   obtain ⟨hp, h⟩ := Zx h
   exact go ⟨o, Zd9 done o.after.toList, ZiK s1, T, s1, undef, s1⟩ ⟨rfl, rfl, rfl, hg.1.1, hg.1.2, hg.2, rfl, hp, false, hw, (fun e => by cases e), fun _ => ⟨rfl, rfl, rfl⟩⟩ rfl h
  ·cases h

/-! ### Which operations stand ahead -/
theorem ZlN {i : Nat} : ∀ {l : List Edge}, Zkt i l = true → ∀ e ∈ l, Region.binds .any e = true → e.on < i
 | [], _, e, he => by cases he
 | d :: l, h, e, he => by
  simp only [Zkt, Bool.and_eq_true, Bool.or_eq_true, Bool.not_eq_true'] at h
  rcases List.mem_cons.1 he with rfl | he
  ·intro hb
   rcases h.1 with h1 | h1
   ·rw [hb] at h1; cases h1
   ·exact Nat.le_of_ble_eq_true h1
  ·exact ZlN h.2 e he
theorem ZjW {before : List Ent} {j : Nat} : ∀ {l : List Edge}, (Zd9 before l).testBit j = true → ∃ e ∈ l, Region.binds .any e = true ∧ (e.on = j ∨ ∃ d, before[e.on]? = some d ∧ d.m.testBit j = true)
 | [], h => by simp [Zd9] at h
 | d :: l, h => by
  simp only [Zd9] at h
  cases hb : Region.binds .any d with
  | false =>
   rw [hb] at h
   obtain ⟨e, h1, h2⟩ := ZjW (l := l) (by simpa using h)
   exact ⟨e, List.mem_cons_of_mem _ h1, h2⟩
  | true =>
   rw [hb] at h
   simp only [cond_true, Nat.testBit_or, Bool.or_eq_true] at h
   rcases h with (h | h) | h
   ·rw [Nat.testBit_two_pow] at h
    exact ⟨d, by simp, hb, .inl (by simpa using h)⟩
   ·refine ⟨d, by simp, hb, .inr ?_⟩
    split at h
    ·exact ⟨_, by assumption, h⟩
    ·simp at h
   ·obtain ⟨e, h1, h2⟩ := ZjW (l := l) h
    exact ⟨e, List.mem_cons_of_mem _ h1, h2⟩
theorem ZlO {ops : Array Oper} {o : Oper} {r : Rec} {m : Nat} : ∀ {l : List Ent} {j : Nat}, Zjh ops o r m j l = true → ∀ (i : Nat) (d : Ent), l[i]? = some d → m.testBit (j + i) = true ∨ (Oper.apart ops d.o o = true ∧ Zok d.r r = true)
 | [], j, _, i, d, hd => by simp at hd
 | x :: l, j, h, i, d, hd => by
  simp only [Zjh, Bool.and_eq_true, Bool.or_eq_true] at h
  cases i with
  | zero =>
   simp at hd
   subst hd
   rcases h.1 with h1 | h1
   ·exact .inl (by simpa using h1)
   ·exact .inr h1
  | succ i =>
   have := ZlO h.2 i d (by simpa using hd)
   rwa [show j + 1 + i = j + (i + 1) by omega] at this
def ZoM (es : List Ent) (L : Nat → Bool) : Prop := ∀ (i : Nat) (e : Ent), es[i]? = some e → L i = true → ∀ d ∈ e.o.after.toList, Region.binds .any d = true → L d.on = true
theorem Zn6 {es : List Ent} {L : Nat → Bool} (hc : ZoM es L) (hm : ∀ (i : Nat) (e : Ent), es[i]? = some e → e.m = Zd9 (es.take i) e.o.after.toList) {j : Nat} :
  ∀ (i : Nat) (e : Ent), es[i]? = some e → (∀ d ∈ e.o.after.toList, Region.binds .any d = true → L d.on = true) → e.m.testBit j = true → L j = true := by
 intro i
 induction i using Nat.strongRecOn with
 | _ i ih =>
  intro e he hr hb
  rw [hm i e he] at hb
  obtain ⟨d, hd, hbd, h1 | ⟨x, hx, hxb⟩⟩ := ZjW hb
  ·rw [← h1]; exact hr d hd hbd
  ·have hlt : d.on < i := by
    have := (List.getElem?_eq_some_iff.1 hx).1
    rw [List.length_take] at this
    omega
   rw [List.getElem?_take_of_lt hlt] at hx
   exact ih d.on hlt x hx (hc d.on x hx (hr d hd hbd)) hxb
end
end Ev
end Go.Proofs.YtjdojnecmplmnaaGreat
/- A region that draws its order: in whatever order its edges allow. -/
namespace Go.Proofs.YtjdojnecmplmnaaGreat
open Go.RowKit
namespace Ev
section
variable {β : Type}
noncomputable def ovf (L D : Nat → Bool) (V : Nat → β) (x0 : β) : Nat → β
  | 0 => x0
  | p + 1 => if L p && D p then V p else ovf L D V x0 p
noncomputable def ZdM (L : Nat → Bool) (i : Nat) : Nat → Bool := fun j => if j = i then true else L j
theorem ZjO {L D : Nat → Bool} {V S : Nat → β} (i n : Nat) (hi : i ≤ n) (hS : ∀ p, p < n → S (p + 1) = if D p then V p else S p) (h1 : ∀ p, p < i → L p = false → D p = false) (h2 : ∀ p, i ≤ p → p < n → L p = true → D p = false) :
    ovf L D V (S 0) n = S i := by
  have A : ∀ p, p ≤ i → ovf L D V (S 0) p = S p := by
    intro p
    induction p with
    | zero => intro _; rfl
    | succ p ih =>
      intro hp
      rw [ovf, ih (by omega), hS p (by omega)]
      cases hL : L p with
      | true => simp
      | false => rw [h1 p (by omega) hL]; simp
  have B : ∀ p, i ≤ p → p ≤ n → ovf L D V (S 0) p = S i := by
    intro p
    induction p with
    | zero => intro h _; obtain rfl : i = 0 := by omega
              rfl
    | succ p ih =>
      intro h hp
      by_cases he : i = p + 1
      · rw [he]; exact A (p + 1) (by omega)
      · rw [ovf, ih (by omega) (by omega)]
        cases hL : L p with
        | true => rw [h2 p (by omega) (by omega) hL]; simp
        | false => simp
  exact B n hi (Nat.le_refl _)
theorem ZrZ {L D : Nat → Bool} {V : Nat → β} {x0 : β} (i n : Nat) (hi : i < n) (hL : L i = false) (h : ∀ p, i < p → p < n → L p = true → D p = true → D i = false) :
    ovf (ZdM L i) D V x0 n = if D i then V i else ovf L D V x0 n := by
  have A : ∀ p, p ≤ i → ovf (ZdM L i) D V x0 p = ovf L D V x0 p := by
    intro p
    induction p with
    | zero => intro _; rfl
    | succ p ih =>
      intro hp
      rw [ovf, ovf, ih (by omega)]
      have : ZdM L i p = L p := by unfold ZdM; rw [if_neg (by omega)]
      rw [this]
  have B : ∀ p, i < p → p ≤ n → ovf (ZdM L i) D V x0 p = if D i then V i else ovf L D V x0 p := by
    intro p
    induction p with
    | zero => intro h _; omega
    | succ p ih =>
      intro hp hn
      by_cases he : p = i
      · subst he
        rw [ovf, ovf, A p (Nat.le_refl _), hL]
        have : ZdM L p p = true := by simp [ZdM]
        rw [this]
        simp
      · rw [ovf, ovf, ih (by omega) (by omega)]
        have : ZdM L i p = L p := by unfold ZdM; rw [if_neg he]
        rw [this]
        cases hLp : L p with
        | false => simp
        | true =>
          cases hD : D p with
          | false => simp
          | true => rw [h p (by omega) (by omega) hLp hD]; simp
  exact B n hi (Nat.le_refl _)
end
section
variable {P : Program} {ext : FuncId → Option Ext}

noncomputable def ZjX (es : List Ent) (k p : Nat) : Bool := match es[p]? with | some e => Dk e.r k | none => false
noncomputable def Zq6 (es : List Ent) (k p : Nat) : Option AObj := match es[p]? with | some e => e.s'.h.get k | none => none
noncomputable def HL (es : List Ent) (L : Nat → Bool) (s : St) : AH := fun k => ovf L (ZjX es k) (Zq6 es k) (s.h.get k) es.length
noncomputable def ZlP (es : List Ent) (t p : Nat) : Bool := match es[p]? with | some e => e.o.dst == some t | none => false
noncomputable def Zq7 (es : List Ent) (p : Nat) : Option Value := match es[p]? with | some e => some e.v | none => none
noncomputable def TL (es : List Ent) (L : Nat → Bool) (T : Tr Value) : Nat → Option Value := fun t => ovf L (ZlP es t) (Zq7 es) (T.get t) es.length
structure Ctx (P : Program) (ext : FuncId → Option Ext) (nt fu : Nat) (ops : Array Oper) (es : List Ent) (σ : Nat → St) (τ : Nat → Tr Value) : Prop where
  len : es.length = ops.size
  op : ∀ (i : Nat) (e : Ent), es[i]? = some e → ops[i]? = some e.o
  ok : ∀ (i : Nat) (e : Ent), es[i]? = some e → EntOk P ext nt fu ops (es.take i) (τ i) (τ (i + 1)) (σ i) (σ (i + 1)) e
  rok : ∀ (i : Nat) (e : Ent), es[i]? = some e → Zot e.r ∧ e.r.n0 = (σ i).n ∧ e.r.n1 = (σ (i + 1)).n ∧ (∀ k, Dk e.r k = false → (σ (i + 1)).h.get k = (σ i).h.get k) ∧ e.s.h = (σ i).h
  old : ∀ k, ((σ 0).h.get k).isSome → ¬ ((σ 0).n ≤ k ∧ k < (σ es.length).n)
  sem : ∀ (i : Nat) (e : Ent), es[i]? = some e → ∀ (ι : Ren) (w : World) (a : Act) (K : Act → World → Prop) (Q : Exit → Act → World → Prop), (∀ t ∈ e.o.looksAt ops, VR ι (((τ i).get t).getD undef) (a.tmps.getD t undef)) → Emb P ι (Kof e) w → Fresh ι (σ i).n (σ (i + 1)).n →
    (∀ v' w' ι', Step P ι (Kof e) w ι' (Zq4 e) w' → Dom ι ι' (σ i).n (σ (i + 1)).n → VR ι' e.v v' → K (a.put e.o.dst v') w') → wpOp P ops Q i K a w
variable {nt fu : Nat} {ops : Array Oper} {es : List Ent} {σ : Nat → St} {τ : Nat → Tr Value}
theorem Ctx.get (C : Ctx P ext nt fu ops es σ τ) {i : Nat} (hi : i < es.length) : ∃ e, es[i]? = some e := ⟨_, List.getElem?_eq_getElem hi⟩
theorem Ctx.mono (C : Ctx P ext nt fu ops es σ τ) : ∀ {i j : Nat}, i ≤ j → j ≤ es.length → (σ i).n ≤ (σ j).n := by
  intro i j
  induction j with
  | zero => intro h _; obtain rfl : i = 0 := by omega
            exact Nat.le_refl _
  | succ j ih =>
    intro h hj
    by_cases he : i = j + 1
    · subst he; exact Nat.le_refl _
    · obtain ⟨e, hee⟩ := C.get (i := j) (by omega)
      obtain ⟨r1, r2, r3, _⟩ := C.rok j e hee
      have := r1.le
      exact Nat.le_trans (ih (by omega) (by omega)) (by omega)
theorem Ctx.chainH (C : Ctx P ext nt fu ops es σ τ) (k p : Nat) (hp : p < es.length) : (σ (p + 1)).h.get k = if ZjX es k p then Zq6 es k p else (σ p).h.get k := by
  obtain ⟨e, he⟩ := C.get hp
  obtain ⟨_, _, _, r4, _⟩ := C.rok p e he
  have hs := (C.ok p e he).es'
  unfold ZjX Zq6
  rw [he]
  simp only
  cases hd : Dk e.r k with
  | true => simp [hs]
  | false => simpa using r4 k hd
theorem Ctx.chainT (C : Ctx P ext nt fu ops es σ τ) (t p : Nat) (hp : p < es.length) : (τ (p + 1)).get t = if ZlP es t p then Zq7 es p else (τ p).get t := by
  obtain ⟨e, he⟩ := C.get hp
  have hs := (C.ok p e he).eT'
  unfold ZlP Zq7
  rw [he, hs]
  simp only
  cases hd : e.o.dst with
  | none => simp [ZeD]
  | some d =>
    simp only [ZeD, Tr.get_set]
    by_cases ht : t = d
    · subst ht; simp [ZK]
    · rw [Zv ht]
      have : ((some d : Option Nat) == some t) = false := by simpa using fun e => ht e.symm
      rw [this]
      simp
theorem Ctx.dk_lt (C : Ctx P ext nt fu ops es σ τ) {p k : Nat} {e : Ent} (he : es[p]? = some e) (hd : Dk e.r k = true) : k < (σ (p + 1)).n := by
  obtain ⟨r1, r2, r3, _⟩ := C.rok p e he
  rcases ZeY.1 hd with ⟨_, h⟩ | ⟨_, h⟩
  · have := r1.lt k h; have := r1.le; omega
  · omega
theorem Ctx.pair (C : Ctx P ext nt fu ops es σ τ) {i j : Nat} {d e : Ent} (hij : i < j) (hd : es[i]? = some d) (he : es[j]? = some e) : e.m.testBit i = true ∨ (Oper.apart ops d.o e.o = true ∧ Zq5 d.r e.r ∧ Zq5 e.r d.r ∧ ∀ k, Dk d.r k = true → Dk e.r k = true → False) := by
  have hj : j < es.length := (List.getElem?_eq_some_iff.1 he).1
  rcases ZlO (C.ok j e he).pairs i d (by rw [List.getElem?_take_of_lt hij]; exact hd) with h | ⟨h1, h2⟩
  · exact .inl (by simpa using h)
  · obtain ⟨r1, r2, r3, _⟩ := C.rok i d hd
    obtain ⟨q1, q2, q3, _⟩ := C.rok j e he
    exact .inr ⟨h1, ZrD h2 r1 q1 (by rw [r3, q2]; exact C.mono (by omega) (by omega))⟩
structure ZmY (es : List Ent) (L : Nat → Bool) (i : Nat) (e : Ent) : Prop where
  at_ : es[i]? = some e
  cl : ZoM es L
  not : L i = false
  deps : ∀ d ∈ e.o.after.toList, Region.binds .any d = true → L d.on = true
theorem Ctx.masks (C : Ctx P ext nt fu ops es σ τ) : ∀ (i : Nat) (e : Ent), es[i]? = some e → e.m = Zd9 (es.take i) e.o.after.toList := fun i e he => (C.ok i e he).em
theorem Ctx.loose (C : Ctx P ext nt fu ops es σ τ) {L : Nat → Bool} {i j : Nat} {e d : Ent} (R : ZmY es L i e) (hd : es[j]? = some d) (hne : j < i ∧ L j = false ∨ i < j ∧ L j = true) :
    (∀ t, d.o.dst = some t → t ∉ e.o.looksAt ops) ∧ (∀ t, d.o.dst = some t → e.o.dst ≠ some t) ∧ Zq5 e.r d.r ∧ ∀ k, Dk d.r k = true → Dk e.r k = true → False := by
  rcases hne with ⟨h1, h2⟩ | ⟨h1, h2⟩
  · rcases C.pair h1 hd R.at_ with h | ⟨g1, g2, g3, g4⟩
    · have := Zn6 R.cl C.masks i e R.at_ R.deps h
      rw [h2] at this; cases this
    · obtain ⟨a1, a2, a3⟩ := Oper.apart_spec g1
      exact ⟨a1, a2, g3, g4⟩
  · rcases C.pair h1 R.at_ hd with h | ⟨g1, g2, g3, g4⟩
    · have := Zn6 R.cl C.masks j d hd (R.cl j d hd h2) h
      rw [R.not] at this; cases this
    · obtain ⟨a1, a2, a3⟩ := Oper.apart_spec g1
      exact ⟨a3, fun t ht he => a2 t he ht, g2, fun k k1 k2 => g4 k k2 k1⟩
theorem Ctx.live (C : Ctx P ext nt fu ops es σ τ) : ∀ (i : Nat), i ≤ es.length → ∀ k, ((σ i).h.get k).isSome → ¬ ((σ i).n ≤ k ∧ k < (σ es.length).n) := by
  intro i
  induction i with
  | zero => intro _ k hk; exact C.old k hk
  | succ i ih =>
    intro hi k hk
    obtain ⟨e, he⟩ := C.get (i := i) (by omega)
    rw [C.chainH k i (by omega)] at hk
    have hd : ZjX es k i = Dk e.r k := by unfold ZjX; rw [he]
    rw [hd] at hk
    cases hdk : Dk e.r k with
    | true => have := C.dk_lt he hdk; omega
    | false =>
      rw [hdk] at hk
      have := ih (by omega) k (by simpa using hk)
      have := C.mono (i := i) (j := i + 1) (by omega) hi
      omega
theorem Ctx.agreeH (C : Ctx P ext nt fu ops es σ τ) {L : Nat → Bool} {i : Nat} {e : Ent} (R : ZmY es L i e) (k : Nat) (h1 : e.r.small = true → k ∈ e.r.t ++ e.r.q) (h2 : e.r.small = false → ¬ ((σ i).n ≤ k ∧ k < (σ es.length).n)) (h3 : e.r.small = false → k ∉ e.r.q) : HL es L (σ 0) k = (σ i).h.get k := by
  have hi : i < es.length := (List.getElem?_eq_some_iff.1 R.at_).1
  have key : ∀ p, p < es.length → (p < i ∧ L p = false ∨ i < p ∧ L p = true) → ZjX es k p = false := fun p hp hh => by
    obtain ⟨d, hd⟩ := C.get hp
    obtain ⟨_, _, g3, _⟩ := C.loose R hd hh
    unfold ZjX
    rw [hd]
    simp only
    cases hs : e.r.small with
    | true => exact g3.1 hs k (h1 hs)
    | false =>
      by_cases hk : k < e.r.n0
      · exact g3.2 hs k hk (h3 hs)
      · cases hdk : Dk d.r k with
        | false => rfl
        | true =>
          exfalso
          have q := C.dk_lt hd hdk
          have := C.mono (i := p + 1) (j := es.length) (by omega) (Nat.le_refl _)
          have := (C.rok i e R.at_).2.1
          exact h2 hs ⟨by omega, by omega⟩
  exact ZjO (S := fun p => (σ p).h.get k) i es.length (by omega) (fun p hp => C.chainH k p hp) (fun p hp hL => key p (by omega) (.inl ⟨hp, hL⟩)) (fun p hp hn hL => by
    by_cases he : p = i
    · subst he; rw [R.not] at hL; cases hL
    · exact key p hn (.inr ⟨by omega, hL⟩))
theorem Ctx.agreeT (C : Ctx P ext nt fu ops es σ τ) {L : Nat → Bool} {i : Nat} {e : Ent} (R : ZmY es L i e) (t : Nat) (ht : t ∈ e.o.looksAt ops) : TL es L (τ 0) t = (τ i).get t := by
  have hi : i < es.length := (List.getElem?_eq_some_iff.1 R.at_).1
  have key : ∀ p, p < es.length → (p < i ∧ L p = false ∨ i < p ∧ L p = true) → ZlP es t p = false := fun p hp hh => by
    obtain ⟨d, hd⟩ := C.get hp
    obtain ⟨g1, _⟩ := C.loose R hd hh
    unfold ZlP
    rw [hd]
    simp only
    cases hb : d.o.dst == some t with
    | false => rfl
    | true => exact absurd ht (g1 t (by simpa using hb))
  exact ZjO (S := fun p => (τ p).get t) i es.length (by omega) (fun p hp => C.chainT t p hp) (fun p hp hL => key p (by omega) (.inl ⟨hp, hL⟩)) (fun p hp hn hL => by
    by_cases he : p = i
    · subst he; rw [R.not] at hL; cases hL
    · exact key p hn (.inr ⟨by omega, hL⟩))
theorem Ctx.addH (C : Ctx P ext nt fu ops es σ τ) {L : Nat → Bool} {i : Nat} {e : Ent} (R : ZmY es L i e) (k : Nat) : HL es (ZdM L i) (σ 0) k = if Dk e.r k then e.s'.h.get k else HL es L (σ 0) k := by
  have hi : i < es.length := (List.getElem?_eq_some_iff.1 R.at_).1
  have := ZrZ (D := ZjX es k) (V := Zq6 es k) (x0 := (σ 0).h.get k) i es.length hi R.not fun p hp hn hL hD => by
    obtain ⟨d, hd⟩ := C.get hn
    obtain ⟨_, _, _, g4⟩ := C.loose R hd (.inr ⟨hp, hL⟩)
    unfold ZjX at hD ⊢
    rw [hd] at hD
    rw [R.at_]
    simp only at hD ⊢
    cases hdk : Dk e.r k with
    | false => rfl
    | true => exact (g4 k hD hdk).elim
  unfold HL
  rw [this]
  unfold ZjX Zq6
  rw [R.at_]
theorem Ctx.addT (C : Ctx P ext nt fu ops es σ τ) {L : Nat → Bool} {i : Nat} {e : Ent} (R : ZmY es L i e) (t : Nat) : TL es (ZdM L i) (τ 0) t = if e.o.dst = some t then some e.v else TL es L (τ 0) t := by
  have hi : i < es.length := (List.getElem?_eq_some_iff.1 R.at_).1
  have := ZrZ (D := ZlP es t) (V := Zq7 es) (x0 := (τ 0).get t) i es.length hi R.not fun p hp hn hL hD => by
    obtain ⟨d, hd⟩ := C.get hn
    obtain ⟨_, g2, _⟩ := C.loose R hd (.inr ⟨hp, hL⟩)
    unfold ZlP at hD ⊢
    rw [hd] at hD
    rw [R.at_]
    simp only at hD ⊢
    cases hdk : e.o.dst == some t with
    | false => rfl
    | true => exact absurd (by simpa using hdk) (g2 t (by simpa using hD))
  unfold TL
  rw [this]
  unfold ZlP Zq7
  rw [R.at_]
  simp only
  by_cases hb : e.o.dst = some t
  · simp [hb]
  · have : (e.o.dst == some t) = false := by simpa using hb
    rw [this, if_neg hb]
    simp
end
end Ev
end Go.Proofs.YtjdojnecmplmnaaGreat
/- A region that draws its order: any order comes to the same. -/
namespace Go.Proofs.YtjdojnecmplmnaaGreat
open Go.RowKit
namespace Ev
section
variable {P : Program} {ext : FuncId → Option Ext}

theorem ZlQ {ops : Array Oper} {listed : Array Bool} (hs : listed.size = ops.size) {i : Nat} : i ∈ Region.ready .any ops listed ↔ ∃ o, ops[i]? = some o ∧ listed.getD i false = false ∧ ∀ d ∈ o.after.toList, Region.binds .any d = true → listed.getD d.on false = true := by
 unfold Region.ready
 rw [List.mem_filter]
 simp only [List.mem_range, Bool.and_eq_true, Bool.not_eq_true']
 constructor
 ·rintro ⟨hi, h1, h2⟩
  have ho : ops[i]? = some ops[i] := Array.getElem?_eq_getElem hi
  rw [ho] at h2
  simp only [Option.map_some, Option.getD_some, Array.all_eq_true', Bool.or_eq_true, Bool.not_eq_true'] at h2
  refine ⟨ops[i], ho, ?_, fun d hd hb => ?_⟩
  ·have hl : i < listed.size := by omega
   simpa [Array.getD, hl] using h1
  ·rcases h2 d (by simpa using hd) with h | h
   ·rw [hb] at h; cases h
   ·exact h
 ·rintro ⟨o, ho, h1, h2⟩
  have hi : i < ops.size := (Array.getElem?_eq_some_iff.1 ho).1
  have hl : i < listed.size := by omega
  refine ⟨hi, by simpa [Array.getD, hl] using h1, ?_⟩
  rw [ho]
  simp only [Option.map_some, Option.getD_some, Array.all_eq_true', Bool.or_eq_true, Bool.not_eq_true']
  intro d hd
  cases hb : Region.binds .any d with
  | false => exact .inl rfl
  | true => exact .inr (h2 d (by simpa using hd) hb)
def cnt (L : Nat → Bool) : Nat → Nat
 | 0 => 0
 | p + 1 => cnt L p + if L p then 0 else 1
theorem Zsa {L : Nat → Bool} {i : Nat} (hL : L i = false) : ∀ p, (p ≤ i → cnt (ZdM L i) p = cnt L p) ∧ (i < p → cnt (ZdM L i) p + 1 = cnt L p)
 | 0 => ⟨fun _ => rfl, fun h => by omega⟩
 | p + 1 => by
  obtain ⟨h1, h2⟩ := Zsa hL p
  refine ⟨fun h => ?_, fun h => ?_⟩
  ·have : ZdM L i p = L p := by unfold ZdM; rw [if_neg (by omega)]
   rw [cnt, cnt, h1 (by omega), this]
  ·by_cases he : p = i
   ·subst he
    have : ZdM L p p = true := by simp [ZdM]
    rw [cnt, cnt, h1 (Nat.le_refl _), this, hL]
    simp
   ·have : ZdM L i p = L p := by unfold ZdM; rw [if_neg he]
    rw [cnt, cnt, this]
    have := h2 (by omega)
    omega
theorem Zq8 {L : Nat → Bool} : ∀ p, cnt L p = 0 → ∀ j, j < p → L j = true
 | 0, _, j, hj => by omega
 | p + 1, h, j, hj => by
  rw [cnt] at h
  by_cases he : j = p
  ·subst he
   cases hL : L j with
   | true => rfl
   | false => rw [hL] at h; simp at h
  ·exact Zq8 p (by omega) j (by omega)
theorem ZnL {a : Act} {dst : Option Tmp} {nt : Nat} (hs : a.tmps.size = nt) (hd : Zhh nt dst = true) (v : Value) (t : Nat) : (a.put dst v).tmps.getD t undef = if dst = some t then v else a.tmps.getD t undef := by
 cases dst with
 | none => simp [Act.put]
 | some d =>
  have hlt : d < a.tmps.size := by rw [hs]; simpa [Zhh, Nat.blt_eq] using hd
  simp only [Act.put]
  by_cases ht : d = t
  ·subst ht
   simp [Array.getD, hlt]
  ·have : ¬ (some d = some t) := by simpa using ht
   rw [if_neg this]
   simp [Array.getD_eq_getD_getElem?, Array.getElem?_setIfInBounds_ne ht]
variable {nt fu : Nat} {ops : Array Oper} {es : List Ent} {σ : Nat → St} {τ : Nat → Tr Value}
structure Inv (P : Program) (nt : Nat) (D : List Deferred) (es : List Ent) (σ : Nat → St) (τ : Nat → Tr Value) (ι0 : Ren) (w0 : World) (L : Nat → Bool) (a : Act) (w : World) (ι : Ren) : Prop where
 step : Step P ι0 (σ 0).h.get w0 ι (HL es L (σ 0)) w
 dom : ∀ k, ι k ≠ none → ι0 k ≠ none ∨ far ≤ k ∨ ∃ j, L j = true ∧ j < es.length ∧ (σ j).n ≤ k ∧ k < (σ (j + 1)).n
 size : a.tmps.size = nt
 defers : a.defers = D
 temps : ∀ t, VR ι ((TL es L (τ 0) t).getD undef) (a.tmps.getD t undef)
theorem Ctx.order {D : List Deferred} (C : Ctx P ext nt fu ops es σ τ) {ι0 : Ren} {w0 : World} (hf : Fresh ι0 (σ 0).n (σ es.length).n) {Q : Exit → Act → World → Prop}
  (hQ : ∀ ι a w, Step P ι0 (σ 0).h.get w0 ι (σ es.length).h.get w → Dom ι0 ι (σ 0).n (σ es.length).n → TR ι nt D (τ es.length) a → Q .normal a w) :
  ∀ (fuel : Nat) (listed : Array Bool) (a : Act) (w : World) (ι : Ren), listed.size = ops.size → cnt (fun j => listed.getD j false) es.length ≤ fuel → ZoM es (fun j => listed.getD j false) → Inv P nt D es σ τ ι0 w0 (fun j => listed.getD j false) a w ι →
   wpAny P .any ops Q fuel listed a w := by
 -- all are listed
 have fin : ∀ (listed : Array Bool) (a : Act) (w : World) (ι : Ren), (∀ j, j < es.length → listed.getD j false = true) → Inv P nt D es σ τ ι0 w0 (fun j => listed.getD j false) a w ι → Q .normal a w := fun listed a w ι hall I => by
  have hH : HL es (fun j => listed.getD j false) (σ 0) = (σ es.length).h.get := funext fun k =>
   ZjO (S := fun p => (σ p).h.get k) es.length es.length (Nat.le_refl _) (fun p hp => C.chainH k p hp) (fun p hp hL => by rw [hall p hp] at hL; cases hL) (fun p h1 h2 => by omega)
  have hT : ∀ t, TL es (fun j => listed.getD j false) (τ 0) t = (τ es.length).get t := fun t =>
   ZjO (S := fun p => (τ p).get t) es.length es.length (Nat.le_refl _) (fun p hp => C.chainT t p hp) (fun p hp hL => by rw [hall p hp] at hL; cases hL) (fun p h1 h2 => by omega)
  refine hQ ι a w (hH ▸ I.step) (fun k hk => ?_) ⟨I.size, I.defers, fun t => hT t ▸ I.temps t⟩
  rcases I.dom k hk with h | h | ⟨j, _, hj, h1, h2⟩
  ·exact .inl h
  ·exact .inr (.inr h)
  ·have := C.mono (i := 0) (j := j) (by omega) (by omega)
   have := C.mono (i := j + 1) (j := es.length) (by omega) (Nat.le_refl _)
   exact .inr (.inl ⟨by omega, by omega⟩)
 have none_ready : ∀ (listed : Array Bool), listed.size = ops.size → Region.ready .any ops listed = [] → ∀ j, j < es.length → listed.getD j false = true := fun listed hs hr => by
  intro j
  induction j using Nat.strongRecOn with
  | _ j ih =>
   intro hj
   obtain ⟨e, he⟩ := C.get hj
   cases hL : listed.getD j false with
   | true => rfl
   | false =>
    exfalso
    have hm : j ∈ Region.ready .any ops listed := (ZlQ hs).2 ⟨e.o, C.op j e he, hL, fun d hd hb => by
     have := ZlN (C.ok j e he).edges d hd hb
     rw [List.length_take] at this
     exact ih d.on (by omega) (by omega)⟩
    rw [hr] at hm
    cases hm
 intro fuel
 induction fuel with
 | zero =>
  intro listed a w ι hs hc _ I
  have hall := Zq8 es.length (by omega : cnt (fun j => listed.getD j false) es.length = 0)
  refine ⟨?_, fin listed a w ι hall I⟩
  cases hr : Region.ready .any ops listed with
  | nil => rfl
  | cons i l =>
   obtain ⟨o, ho, h1, _⟩ := (ZlQ hs).1 (show i ∈ Region.ready .any ops listed by rw [hr]; simp)
   have hi : i < es.length := by rw [C.len]; exact (Array.getElem?_eq_some_iff.1 ho).1
   have := hall i hi
   rw [h1] at this
   cases this
 | succ fuel ih =>
  intro listed a w ι hs hc hcl I
  refine ⟨fun hr => fin listed a w ι (none_ready listed hs hr) I, fun i hi => ?_⟩
  obtain ⟨o, ho, h1, h2⟩ := (ZlQ hs).1 hi
  have hin : i < es.length := by rw [C.len]; exact (Array.getElem?_eq_some_iff.1 ho).1
  obtain ⟨e, he⟩ := C.get hin
  have heo : e.o = o := by have := C.op i e he; rw [ho] at this; exact (Option.some.inj this).symm
  subst heo
  have R : ZmY es (fun j => listed.getD j false) i e := ⟨he, hcl, h1, h2⟩
  obtain ⟨rk, rn0, rn1, _, rsh⟩ := C.rok i e he
  have hK : ∀ k o', Kof e k = some o' → HL es (fun j => listed.getD j false) (σ 0) k = some o' := fun k o' hk => by
   unfold Kof at hk
   split at hk
   ·rename_i hsm
    rw [ZjN] at hk
    split at hk
    ·rename_i hm
     rw [C.agreeH R k (fun _ => hm) (fun e => by rw [hsm] at e; cases e) (fun e => by rw [hsm] at e; cases e)]
     rw [← rsh]; exact hk
    ·cases hk
   ·rename_i hsm
    rw [rsh, ZdU] at hk
    split at hk
    ·rw [Tr.get_nil] at hk; cases hk
    ·rename_i hm
     rw [C.agreeH R k (fun e => absurd e hsm) (fun _ => C.live i (by omega) k (by rw [hk]; rfl)) (fun _ => hm)]
     exact hk
  have hfr : Fresh ι (σ i).n (σ (i + 1)).n := ⟨Nat.le_trans (C.mono (i := i + 1) (j := es.length) (by omega) (Nat.le_refl _)) hf.1, fun k k1 k2 => by
   cases hk : ι k with
   | none => rfl
   | some c =>
    exfalso
    have m1 := C.mono (i := 0) (j := i) (by omega) (by omega)
    have m2 := C.mono (i := i + 1) (j := es.length) (by omega) (Nat.le_refl _)
    rcases I.dom k (by rw [hk]; simp) with h | h | ⟨j, hj, hjn, q1, q2⟩
    ·exact h (hf.2 k (by omega) (by omega))
    ·have := hf.1; omega
    ·by_cases hji : j = i
     ·subst hji
      have hj' : listed.getD j false = true := hj
      rw [h1] at hj'; cases hj'
     ·rcases Nat.lt_or_ge j i with h | h
      ·have := C.mono (i := j + 1) (j := i) (by omega) (by omega); omega
      ·have := C.mono (i := i + 1) (j := j) (by omega) (by omega); omega⟩
  have hil : i < listed.size := by rw [hs, ← C.len]; exact hin
  have hL' : (fun j => (listed.setIfInBounds i true).getD j false) = ZdM (fun j => listed.getD j false) i := funext fun j => by
   unfold ZdM
   by_cases hj : j = i
   ·subst hj; simp [Array.getD, hil]
   ·rw [if_neg hj]
    simp [Array.getD_eq_getD_getElem?, Array.getElem?_setIfInBounds_ne (fun e => hj e.symm)]
  refine C.sem i e he ι w a _ Q (fun t ht => ?_) (I.step.emb.sub hK) hfr fun v' w' ι' st dm hv => ?_
  ·rw [← C.agreeT R t ht]
   exact I.temps t
  ·-- the others stay
   have hX1 : join (Kof e) (fun k => if (Kof e k).isSome then none else HL es (fun j => listed.getD j false) (σ 0) k) = HL es (fun j => listed.getD j false) (σ 0) := funext fun k => by
    cases hk : Kof e k with
    | some o' => rw [Ze0 (by rw [hk]; rfl), hk, hK k o' hk]
    | none => rw [Zdy hk, hk]; rfl
   have hX2 : join (Zq4 e) (fun k => if (Kof e k).isSome then none else HL es (fun j => listed.getD j false) (σ 0) k) = HL es (ZdM (fun j => listed.getD j false) i) (σ 0) := funext fun k => by
    rw [C.addH R k]
    unfold join Zq4
    cases hd : Dk e.r k with
    | false =>
     simp only [Bool.false_eq_true, if_false]
     cases hk : Kof e k with
     | some o' => exact (hK k o' hk).symm
     | none => rfl
    | true =>
     simp only [if_true]
     cases hs' : e.s'.h.get k with
     | some o' => rfl
     | none =>
      simp only
      split
      ·rfl
      ·rename_i hn
       have hkn : Kof e k = none := by
        cases hk : Kof e k with
        | none => rfl
        | some o' => rw [hk] at hn; exact absurd rfl hn
       rcases ZeY.1 hd with ⟨q1, q2⟩ | ⟨q1, q2⟩
       ·have hlt := rk.lt k q2
        rw [C.agreeH R k (fun _ => List.mem_append_left _ q2) (fun _ => by omega) (fun hs => rk.qt hs k q2)]
        unfold Kof at hkn
        split at hkn
        ·rw [ZjN, if_pos (List.mem_append_left _ q2), rsh] at hkn; exact hkn
        ·rename_i hsm
         rw [rsh, ZdU, if_neg (rk.qt (by simpa using hsm) k q2)] at hkn; exact hkn
       ·cases hx : HL es (fun j => listed.getD j false) (σ 0) k with
        | none => rfl
        | some o' =>
         obtain ⟨b, hb⟩ := I.step.emb.live (k := k) (by rw [hx]; rfl)
         have := hfr.2 k (by omega) (by omega)
         rw [this] at hb
         cases hb
   have fr := Step.framed st (x := fun k => if (Kof e k).isSome then none else HL es (fun j => listed.getD j false) (σ 0) k) (by rw [hX1]; exact I.step.emb) (fun k hk => by
    cases hkk : Kof e k with
    | none => rfl
    | some o' => simp only [hkk] at hk; simp at hk)
   rw [hX1, hX2] at fr
   have hdst := (C.ok i e he).dst
   refine ih (listed.setIfInBounds i true) _ w' ι' (by simpa using hs) ?_ ?_ ?_
   ·rw [hL']
    have := (Zsa (L := fun j => listed.getD j false) (i := i) h1 es.length).2 hin
    omega
   ·rw [hL']
    intro j d hd hj x hx hb
    unfold ZdM at hj ⊢
    split
    ·rfl
    ·by_cases hji : j = i
     ·subst hji
      rw [he] at hd; injection hd with hd; subst hd
      exact h2 x hx hb
     ·rw [if_neg hji] at hj
      exact hcl j d hd hj x hx hb
   ·rw [hL']
    refine ⟨I.step.trans fr, fun k hk => ?_, ?_, ?_, fun t => ?_⟩
    ·rcases dm k hk with h | ⟨q1, q2⟩ | h
     ·rcases I.dom k h with h | h | ⟨j, hj, hjn, q1, q2⟩
      ·exact .inl h
      ·exact .inr (.inl h)
      ·exact .inr (.inr ⟨j, by unfold ZdM; split <;> first | rfl | exact hj, hjn, q1, q2⟩)
     ·exact .inr (.inr ⟨i, by simp [ZdM], hin, q1, q2⟩)
     ·exact .inr (.inl h)
    ·have := I.size
     cases e.o.dst <;> simp [Act.put, this]
    ·have := I.defers
     cases e.o.dst <;> simp [Act.put, this]
    ·rw [C.addT R t, ZnL I.size hdst]
     by_cases hdt : e.o.dst = some t
     ·rw [if_pos hdt, if_pos hdt]; exact hv
     ·rw [if_neg hdt, if_neg hdt]; exact (I.temps t).ext fr.ext
end
end Ev
end Go.Proofs.YtjdojnecmplmnaaGreat
/- A region that draws its order: from the run in the text's order to any order. -/
namespace Go.Proofs.YtjdojnecmplmnaaGreat
open Go.RowKit
namespace Ev
section
variable {P : Program} {ext : FuncId → Option Ext}

noncomputable def SOp (P : Program) (ext : FuncId → Option Ext) (fu : Nat) : Prop :=
  ∀ (ρ ρ' : Operand → Value) (o : Oper) (s : St) (v : Value) (s' : St), Zhj P ext fu ρ o s = some (v, s') → (∀ p ∈ s'.ob, p.1 = p.2) → ∀ (ι : Ren) (w : World), (∀ x, VR ι (ρ x) (ρ' x)) → Emb P ι s.h.get w → Fresh ι s.n s'.n →
    ∀ (a : Act) (K : Act → World → Prop) (Q : Exit → Act → World → Prop), execOp a.eval o = execOp ρ' o → (∀ v' w' ι', Step P ι s.h.get w ι' s'.h.get w' → Dom ι ι' s.n s'.n → VR ι' v v' → K (a.put o.dst v') w') → o.wp P a w K Q
noncomputable def K0 (r : Rec) (s : St) : AH := if r.small then (ZjK s.h (r.t ++ r.q)).get else (Zfk .nil r.q s.h).get
theorem Zgm {n k : Nat} : ∀ {l : List Nat}, k ∈ Zjx n l ↔ k ∈ l ∧ k < n
  | [] => by simp [Zjx]
  | x :: l => by
    simp only [Zjx]
    cases hx : Nat.blt x n with
    | true =>
      have : x < n := Nat.le_of_ble_eq_true hx
      simp only [cond_true, List.mem_cons, Zgm (l := l)]
      constructor
      · rintro (rfl | ⟨h1, h2⟩)
        · exact ⟨.inl rfl, this⟩
        · exact ⟨.inr h1, h2⟩
      · rintro ⟨rfl | h1, h2⟩
        · exact .inl rfl
        · exact .inr ⟨h1, h2⟩
    | false =>
      have : ¬ x < n := fun e => by rw [show Nat.blt x n = true from Nat.ble_eq_true_of_le e] at hx; cases hx
      simp only [cond_false, List.mem_cons, Zgm (l := l)]
      constructor
      · rintro ⟨h1, h2⟩; exact ⟨.inr h1, h2⟩
      · rintro ⟨rfl | h1, h2⟩
        · exact absurd h2 this
        · exact ⟨h1, h2⟩
theorem Zpw (F : Fit P ext) {fu : Nat} {xs : List Nat} {ρ : Operand → Value} {o : Oper} {s s' : St} {v : Value} {r : Rec} (h : ZiX P ext (fu + 1) xs ρ o s = some (v, s', r)) :
    Zot r ∧ r.n0 = s.n ∧ r.n1 = s'.n ∧ (∀ k, Dk r k = false → s'.h.get k = s.h.get k) ∧
    ∃ (s0 s1 : St), Zhj P ext fu ρ o s0 = some (v, s1) ∧ s0.n = s.n ∧ s1.n = s'.n ∧ s1.ob = s'.ob ∧ s0.h.get = K0 r s ∧ s1.h.get = fun k => if Dk r k then s'.h.get k else K0 r s k := by
  have ndk : ∀ {k : Nat}, Dk r k = false → ¬ ((r.w = true ∧ k ∈ r.t) ∨ (r.n0 ≤ k ∧ k < r.n1)) := fun {k} hd hn => by rw [ZeY.2 hn] at hd; cases hd
  simp only [ZiX] at h
  split at h
  · split at h
    · rename_i v1 s1 h1
      obtain ⟨hall, h⟩ := Zx h
      simp only [Bool.and_eq_true] at hall
      obtain ⟨hall, hxl, hxw⟩ := hall
      injection h with h
      simp only [Prod.mk.injEq] at h
      obtain ⟨rfl, rfl, rfl⟩ := h
      have u := (Zd4 (P := P) (ext := ext) (fun f g hg => (F.hp f g hg).up) fu).2.2.1 _ _ _ _ _ h1
      obtain ⟨l, e1, e2⟩ := u.log
      simp only [List.append_nil] at e1
      subst e1
      have hx : ∀ k ∈ xs, k < s.n := fun k hk => Nat.le_of_ble_eq_true (Zbl hxl k hk)
      have same : ∀ k, Dk ⟨false, true, Zjx s.n s1.wr, s.n, s1.n, xs⟩ k = false → s1.h.get k = (Zfk .nil xs s.h).get k := fun k hd => by
        have hn := ndk hd
        refine e2 k (fun hk => hn ?_) (fun hk => hn (.inr hk))
        have hk1 : k < s1.n := Nat.le_of_ble_eq_true (Zbl hall k hk)
        by_cases hks : k < s.n
        · exact .inl ⟨rfl, Zgm.2 ⟨hk, hks⟩⟩
        · exact .inr ⟨Nat.not_lt.1 hks, hk1⟩
      refine ⟨⟨fun k hk => (Zgm.1 hk).2, hx, u.n, fun _ => rfl, fun _ k hk hm => ZdC hxw hm (Zgm.1 hk).1⟩, rfl, rfl, fun k hd => ?_, _, s1, h1, rfl, rfl, rfl, rfl, funext fun k => ?_⟩
      · show (Zfk _ _ _).get k = _
        rw [ZdU]
        split
        · rfl
        · rename_i hm
          rw [same k hd, ZdU, if_neg hm]
      · split
        · rename_i hd
          show _ = (Zfk _ _ _).get k
          rw [ZdU, if_neg]
          intro hm
          rcases ZeY.1 hd with ⟨_, q2⟩ | ⟨q1, _⟩
          · exact ZdC hxw hm (Zgm.1 q2).1
          · have := hx k hm; simp only at q1; omega
        · rename_i hd
          exact same k (by simpa using hd)
    · cases h
  · generalize hw : (Zh7 s ρ o).1 = w at h
    generalize ht : (Zh7 s ρ o).2 = t at h
    generalize hq : Zkr ρ o = q at h
    obtain ⟨hltq, h⟩ := Zx h
    obtain ⟨hlt, hlq⟩ := (Bool.and_eq_true _ _).mp hltq
    split at h
    · rename_i v1 s1 h1
      obtain ⟨hall, h⟩ := Zx h
      simp only [Bool.and_eq_true] at hall
      injection h with h
      simp only [Prod.mk.injEq] at h
      obtain ⟨rfl, rfl, rfl⟩ := h
      have u := (Zd4 (P := P) (ext := ext) (fun f g hg => (F.hp f g hg).up) fu).2.2.1 _ _ _ _ _ h1
      obtain ⟨l, e1, e2⟩ := u.log
      simp only [List.append_nil] at e1
      subst e1
      have hle : s1.n ≤ s.n + 1 := Nat.le_of_ble_eq_true hall.2
      have hge : s.n ≤ s1.n := u.n
      have htl : ∀ k ∈ t, k < s.n := fun k hk => Nat.le_of_ble_eq_true (Zbl hlt k hk)
      have hwr : ∀ k ∈ s1.wr, w = true ∧ k ∈ t := fun k hk => by
        have := Zbl hall.1 k hk
        simp only [Bool.and_eq_true, Zhk] at this
        exact this
      have gets : ∀ k, ((bif w then Zfk s1.h t s.h else s.h).set s.n (bif Nat.beq s1.n s.n then s.h.get s.n else s1.h.get s.n)).get k =
          if k = s.n then (bif Nat.beq s1.n s.n then s.h.get s.n else s1.h.get s.n) else if w = true ∧ k ∈ t then s1.h.get k else s.h.get k := fun k => by
        rw [Tr.get_set]
        unfold upd
        split
        · rfl
        · cases w with
          | false => simp
          | true =>
            simp only [cond_true, true_and]
            rw [ZdU]
      refine ⟨⟨htl, fun k hk => Nat.le_of_ble_eq_true (Zbl hlq k hk), hge, fun e => (by cases e), fun e => by cases e⟩, rfl, rfl, fun k hd => ?_, _, s1, h1, rfl, rfl, rfl, rfl, funext fun k => ?_⟩
      · have hn := ndk hd
        rw [gets]
        split
        · rename_i hk
          subst hk
          have : s1.n = s.n := by
            rcases Nat.lt_or_ge s.n s1.n with h | h
            · exact absurd (.inr ⟨Nat.le_refl _, h⟩) hn
            · omega
          rw [ZhM this]; rfl
        · split
          · rename_i hk; exact absurd (.inl hk) hn
          · rfl
      · split
        · rename_i hd
          rw [gets]
          rcases ZeY.1 hd with ⟨q1, q2⟩ | ⟨q1, q2⟩
          · have := htl k q2
            rw [if_neg (by omega), if_pos ⟨q1, q2⟩]
          · simp only at q1 q2
            have hk : k = s.n := by omega
            subst hk
            rw [if_pos rfl, ZhL (by omega)]; rfl
        · rename_i hd
          have hn := ndk (by simpa using hd)
          show _ = (ZjK s.h (t ++ q)).get k
          exact e2 k (fun hk => hn (.inl (hwr k hk))) (fun hk => hn (.inr hk))
    · cases h
theorem ZkM {t : Tmp} : ∀ {l : List Operand}, t ∈ ZhJ l ↔ .tmp t ∈ l
  | [] => by simp [ZhJ]
  | x :: l => by cases x <;> simp [ZhJ, ZkM (l := l)]
theorem Zpx {T : Tr Value} (t : Nat) : ∀ (l : List Tmp), (ZmW T l).get t = if t ∈ l then T.get t else none
  | [] => by simp [ZmW, Tr.get_nil]
  | j :: l => by
    rw [ZmW, Tr.get_set]
    by_cases hk : t = j
    · subst hk; rw [ZK]; simp
    · rw [Zv hk, Zpx t l]
      simp [hk]
theorem ZkN {fu : Nat} {ρ : Operand → Value} {o : Oper} {s s' : St} {v : Value} (h : Zhj P ext fu ρ o s = some (v, s')) : ∀ cs b, o.op ≠ .select cs b := fun cs b hsel => by
  cases fu with
  | zero => simp [Zhj] at h
  | succ fu =>
    have h1 : ev1 P ρ o s = none := by unfold ev1; rw [hsel]
    simp only [Zhj, Zl9, hsel, h1] at h
    cases h
theorem Zq9 (F : Fit P ext) {nt fu : Nat} {D : List Deferred} {ops : Array Oper} {es : List Ent} {T T' : Tr Value} {s s' : St} (hS : ∀ fu', fu' < fu → SOp P ext fu') (h : Zey P ext nt fu ops [] ops.toList T s = some (es, T', s')) (ho : ∀ p ∈ s'.ob, p.1 = p.2)
    {ι : Ren} {a : Act} {w : World} {Q : Exit → Act → World → Prop} (hT : TR ι nt D T a) (he : Emb P ι s.h.get w) (hf : Fresh ι s.n s'.n)
    (hQ : ∀ ι' a' w', Step P ι s.h.get w ι' s'.h.get w' → Dom ι ι' s.n s'.n → TR ι' nt D T' a' → Q .normal a' w') : wpAny P .any ops Q ops.size (Array.replicate ops.size false) a { w with drawn := w.drawn + 1 } := by
  obtain ⟨es2, σ, τ, h1, h2, h3, h4, h5, h6, h7⟩ := Zou nt ops fu _ _ _ _ _ _ _ h
  simp only [List.nil_append] at h1 h7
  subst h1
  have hlen : es.length = ops.size := by rw [← List.length_map (f := (·.o)), h2]; simp
  have hN : ops.toList.length = es.length := by rw [hlen]; simp
  rw [hN] at h5 h6
  have hop : ∀ (i : Nat) (e : Ent), es[i]? = some e → ops[i]? = some e.o := fun i e hi => by
    have : (es.map (·.o))[i]? = some e.o := by simp [hi]
    rw [h2] at this
    simpa using this
  have hup : ∀ (i : Nat) (e : Ent), es[i]? = some e → Up (σ i) e.s ∧ Up e.s e.s' := fun i e hi => by
    obtain ⟨b, q1, q2, q3⟩ := (h7 i e hi).run
    refine ⟨Zdx q1, ?_⟩
    cases b with
    | true =>
      obtain ⟨fu', _, xs, hv⟩ := q2 rfl
      exact (Zd4 (P := P) (ext := ext) (fun f g hg => (F.hp f g hg).up) fu').2.2.2.2.2 _ _ _ _ _ _ _ hv
    | false => obtain ⟨_, e1, _⟩ := q3 rfl; rw [e1]; exact Up.refl _
  have upn : ∀ m i, i + m = es.length → Up (σ i) (σ es.length) := by
    intro m
    induction m with
    | zero => intro i hi; obtain rfl : i = es.length := by omega
              exact Up.refl _
    | succ m ih =>
      intro i hi
      have hlt : i < es.length := by omega
      obtain ⟨u1, u2⟩ := hup i es[i] (List.getElem?_eq_getElem hlt)
      have := ih (i + 1) (by omega)
      rw [(h7 i es[i] (List.getElem?_eq_getElem hlt)).es'] at this
      exact (u1.trans u2).trans this
  have hob : ∀ (i : Nat) (e : Ent), es[i]? = some e → ∀ p ∈ e.s'.ob, p.1 = p.2 := fun i e hi => by
    have hlt : i < es.length := (List.getElem?_eq_some_iff.1 hi).1
    have u := upn (es.length - (i + 1)) (i + 1) (by omega)
    rw [(h7 i e hi).es', h5] at u
    exact ZbA u.ob ho
  -- a test answered so is so
  have hst : ∀ (i : Nat) (e : Ent), es[i]? = some e → e.s.h = (σ i).h ∧ e.s.n = (σ i).n := fun i e hi => by
    obtain ⟨b, q1, _, _⟩ := (h7 i e hi).run
    unfold Zfz at q1
    split at q1
    · injection q1 with q1; injection q1 with g1 g2; rw [← g2]; exact ⟨rfl, rfl⟩
    · split at q1
      · split at q1
        · injection q1 with q1; injection q1 with g1 g2; rw [← g2]; exact ⟨rfl, rfl⟩
        · injection q1 with q1; injection q1 with g1 g2; rw [← g2]; exact ⟨rfl, rfl⟩
        · cases q1
      · cases q1
  have hrec : ∀ (i : Nat) (e : Ent), es[i]? = some e → Zot e.r ∧ e.r.n0 = (σ i).n ∧ e.r.n1 = (σ (i + 1)).n ∧ (∀ k, Dk e.r k = false → (σ (i + 1)).h.get k = (σ i).h.get k) ∧ e.s.h = (σ i).h := fun i e hi => by
    obtain ⟨g1, g2⟩ := hst i e hi
    obtain ⟨b, q1, q2, q3⟩ := (h7 i e hi).run
    rw [(h7 i e hi).es']
    cases b with
    | true =>
      obtain ⟨fu', _, xs, hv⟩ := q2 rfl
      cases fu' with
      | zero => simp [ZiX] at hv
      | succ fu' =>
        obtain ⟨r1, r2, r3, r4, _⟩ := Zpw F hv
        exact ⟨r1, by rw [r2, g2], r3, fun k hk => by rw [r4 k hk, g1], g1⟩
    | false =>
      obtain ⟨_, e1, e2⟩ := q3 rfl
      rw [e1, e2]
      exact ⟨⟨fun k hk => by simp [ZiK] at hk, fun k hk => by simp [ZiK] at hk, Nat.le_refl _, fun e => (by simp [ZiK] at e), fun e => by simp [ZiK] at e⟩, g2, rfl, fun k _ => by rw [g1], g1⟩
  have C : Ctx P ext nt fu ops es σ τ := by
    refine ⟨hlen, hop, h7, hrec, fun k hk => ?_, fun i e hi ι1 w1 a1 K Q1 ht1 he1 hf1 hK => ?_⟩
    · rw [h3] at hk ⊢
      rw [h5]
      rintro ⟨k1, k2⟩
      obtain ⟨b, hb⟩ := he.live hk
      rw [hf.2 k k1 k2] at hb
      cases hb
    · obtain ⟨g1, g2⟩ := hst i e hi
      obtain ⟨b, q1, q2, q3⟩ := (h7 i e hi).run
      have hes' := (h7 i e hi).es'
      have hlt : i < es.length := (List.getElem?_eq_some_iff.1 hi).1
      obtain ⟨hwant, _, _⟩ := ZeX ht1 q1
      unfold wpOp
      rw [hop i e hi]
      simp only
      cases b with
      | true =>
        rw [if_pos hwant]
        obtain ⟨fu', hfu, xs, hv⟩ := q2 rfl
        cases fu' with
        | zero => simp [ZiX] at hv
        | succ fu' =>
          obtain ⟨r1, r2, r3, r4, s0, s1, hv1, n0, n1, ob1, hh0, hh1⟩ := Zpw F hv
          refine .inl (hS fu' (by omega) _ (fun x => match x with | .tmp t => if t ∈ ZhJ e.o.op.operands.toList then a1.tmps.getD t undef else undef | x => Zdf a1 x) e.o s0 e.v s1 hv1 (by rw [ob1]; exact hob i e hi) ι1 w1 (fun x => ?_) ?_ ?_ a1 K Q1 ?_ fun v' w' ι' k1 k2 k3 => ?_)
          · cases x with
            | tmp t =>
              simp only [opnd]
              rw [Zpx]
              by_cases htm : t ∈ ZhJ e.o.op.operands.toList
              · rw [if_pos htm, if_pos htm]
                refine ht1 t ?_
                unfold Oper.looksAt
                refine List.mem_append_left _ (List.mem_filterMap.2 ⟨.tmp t, ZkM.1 htm, rfl⟩)
              · rw [if_neg htm, if_neg htm]; exact VR.undef'
            | const v =>
              simp only [opnd, Zdf]
              cases hfv : Zer v
              · exact VR.undef'
              · exact VR.of_free hfv
            | global g => exact .glob rfl
            | func f => exact .atom rfl
          · rw [hh0]; exact he1
          · rw [n0, n1, g2, ← hes']; exact hf1
          · refine execOp_congr e.o (fun cs b hsel => ?_) fun x hx => ?_
            · exact ZkN hv1 cs b hsel
            · have hg := Zbl (h7 i e hi).good x (by simpa using hx)
              cases x with
              | tmp t => simp only; rw [if_pos (ZkM.2 (by simpa using hx))]; rfl
              | const v => simp only [ZgU] at hg; simp [Zdf, hg, Act.eval]
              | global g => rfl
              | func f => rfl
          · rw [hh0, hh1] at k1
            rw [n0, n1, g2, ← hes'] at k2
            exact hK v' w' ι' k1 k2 k3
      | false =>
        obtain ⟨e0, e1, e2⟩ := q3 rfl
        rw [if_neg (by rw [hwant]; simp)]
        refine hK undef w1 ι1 ?_ Dom.refl (by rw [e0]; exact VR.undef')
        have : Zq4 e = Kof e := funext fun k => by
          unfold Zq4
          rw [e2]
          have : Dk (ZiK e.s) k = false := by
            cases hd : Dk (ZiK e.s) k with
            | false => rfl
            | true =>
              rcases ZeY.1 hd with ⟨q, _⟩ | ⟨q1, q2⟩
              · simp [ZiK] at q
              · simp only [ZiK] at q1 q2; omega
          rw [this]; rfl
        rw [this]
        exact Step.refl he1
  have none0 : ∀ {β : Type} (D : Nat → Bool) (V : Nat → β) (x0 : β) (L : Nat → Bool), (∀ j, L j = false) → ∀ n, ovf L D V x0 n = x0 := fun D V x0 L hL n => by
    induction n with
    | zero => rfl
    | succ n ih => rw [ovf, hL n, ih]; simp
  have hL0 : ∀ j, (Array.replicate ops.size false).getD j false = false := fun j => by
    simp only [Array.getD_eq_getD_getElem?, Array.getElem?_replicate]
    split <;> rfl
  have hH0 : HL es (fun j => (Array.replicate ops.size false).getD j false) (σ 0) = (σ 0).h.get := funext fun k => none0 _ _ _ _ hL0 _
  have hT0 : ∀ t, TL es (fun j => (Array.replicate ops.size false).getD j false) (τ 0) t = (τ 0).get t := fun t => none0 _ _ _ _ hL0 _
  have hs0 : Step P ι (σ 0).h.get w ι (σ 0).h.get { w with drawn := w.drawn + 1 } := Step.still (by rw [h3]; exact he) rfl rfl rfl rfl
  refine C.order (ι0 := ι) (w0 := w) (by rw [h3, h5]; exact hf) (Q := Q) (fun ι' a' w' k1 k2 k3 => ?_) ops.size _ a _ ι (by simp) ?_ ?_ ⟨by rw [hH0]; exact hs0, fun k hk => .inl hk, hT.1, hT.2.1, fun t => by rw [hT0, h4]; exact hT.2.2 t⟩
  · rw [h3, h5] at k1 k2
    rw [h6] at k3
    exact hQ ι' a' w' k1 k2 k3
  · rw [← hlen]
    have : ∀ n, cnt (fun j => (Array.replicate es.length false).getD j false) n ≤ n := fun n => by
      induction n with
      | zero => exact Nat.le_refl _
      | succ n ih => rw [cnt]; split <;> omega
    exact this _
  · intro i e _ hi
    exact absurd ((hL0 i).symm.trans hi) (by decide)
theorem ZsK (F : Fit P ext) {nt fu : Nat} {D : List Deferred} {ops : Array Oper} {es : List Ent} {T T' : Tr Value} {s s' : St} (hS : ∀ fu', fu' < fu → SOp P ext fu') (h : Zey P ext nt fu ops [] ops.toList T s = some (es, T', s')) (ho : ∀ p ∈ s'.ob, p.1 = p.2)
    {ι : Ren} {a : Act} {w : World} {Q : Exit → Act → World → Prop} {id : Nat} (hT : TR ι nt D T a) (he : Emb P ι s.h.get w) (hf : Fresh ι s.n s'.n)
    (hQ : ∀ ι' a' w', Step P ι s.h.get w ι' s'.h.get w' → Dom ι ι' s.n s'.n → TR ι' nt D T' a' → Q .normal a' w') : (Code.region id ops true).wp P Q a w :=
  wp_region_any F.mixed (Zq9 F hS h ho hT he hf hQ)
end
end Ev
end Go.Proofs.YtjdojnecmplmnaaGreat
/- The runner against the model: what it says holds in every world. -/
namespace Go.Proofs.YtjdojnecmplmnaaGreat
open Go.RowKit
namespace Ev
section
variable {P : Program} {ext : FuncId → Option Ext}

def Zfo (P : Program) (ι : Ren) (s : St) (w : World) (nt : Nat) (D : List Deferred) (e : Ex) (T' : Tr Value) (s' : St) (ex : Exit) (a' : Act) (w' : World) : Prop :=
 ex = e.out ∧ ∃ ι', Step P ι s.h.get w ι' s'.h.get w' ∧ Dom ι ι' s.n s'.n ∧ TR ι' nt D T' a'
theorem Step.two {ι ι1 ι2 : Ren} {s s1 s2 : St} {w w1 w2 : World} (a : Step P ι s.h.get w ι1 s1.h.get w1 ∧ Dom ι ι1 s.n s1.n) (b : Step P ι1 s1.h.get w1 ι2 s2.h.get w2 ∧ Dom ι1 ι2 s1.n s2.n) (h1 : s.n ≤ s1.n) (h2 : s1.n ≤ s2.n) :
  Step P ι s.h.get w ι2 s2.h.get w2 ∧ Dom ι ι2 s.n s2.n := ⟨a.1.trans b.1, a.2.trans b.2 h1 h2⟩
theorem ZrE {o : Oper} {c : Call} (h : Zl9 o = some c) : o.op = .call c ∧ True := by
 unfold Zl9 at h
 split at h
 ·rename_i c' ho
  split at h
  ·rename_i f hf
   injection h with h; subst h
   exact ⟨ho, trivial⟩
  ·injection h with h; subst h
   exact ⟨ho, trivial⟩
  ·cases h
 ·cases h
theorem Zfp {ι : Ren} {a a' b b' : Array Value} (h : VRs ι a a') (k : VRs ι b b') : VRs ι (a ++ b) (a' ++ b') := by
 refine ⟨by simp [h.1, k.1], fun i x y hx hy => ?_⟩
 by_cases hi : i < a.size
 ·rw [Array.getElem?_append_left hi] at hx
  rw [Array.getElem?_append_left (by rw [← h.1]; exact hi)] at hy
  exact h.2 i x y hx hy
 ·rw [Array.getElem?_append_right (by omega)] at hx
  rw [Array.getElem?_append_right (by rw [← h.1]; omega), ← h.1] at hy
  exact k.2 _ x y hx hy
theorem ZqA {ι : Ren} {ρ ρ' : Operand → Value} {o : Oper} {c : Call} {f : FuncId} {args : Array Value} (hρ : ∀ x, VR ι (ρ x) (ρ' x)) (ho : o.op = .call c) (h : callee ρ c = some (f, args)) (w : World) :
  ∃ args', (execOp ρ' o).run P w = (callFunc f args').run P w ∧ VRs ι args args' := by
 unfold callee at h
 split at h
 ·rename_i x hx
  split at h
  ·rename_i g a b hg
   injection h with h; injection h with h1 h2; subst h1 h2
   have hv := hg ▸ hρ x
   have : ∃ a' b', ρ' x = .func (.func g) a' b' ∧ VRs ι a a' ∧ VRs ι b b' := by
    generalize ρ' x = x' at hv
    cases hv with
    | atom h =>
     simp [Ev.atom] at h
     obtain ⟨rfl, rfl⟩ := h
     exact ⟨_, _, rfl, ⟨rfl, fun i x y hx => by simp at hx⟩, ⟨rfl, fun i x y hx => by simp at hx⟩⟩
    | func hs ht h1 h2 => exact ⟨_, _, rfl, ⟨hs, h1⟩, ⟨ht, h2⟩⟩
   obtain ⟨a', b', hx', ha, hb⟩ := this
   refine ⟨a' ++ c.args.map ρ' ++ b', ?_, Zfp (Zfp ha (Zjj hρ c.args)) hb⟩
   simp [execOp, ho, resolve, hx, hx', Deferred.ofValue, invoke, Result.andThen, Sem.run]
  ·cases h
 ·cases h
theorem ZpC {ι : Ren} {ρ ρ' : Operand → Value} {o : Oper} {c : Call} {f : FuncId} {args : Array Value} (hρ : ∀ x, VR ι (ρ x) (ρ' x)) (ho : o.op = .call c) (h : ZoF P ρ c = some (f, args)) (w : World) :
  ∃ args', (execOp ρ' o).run P w = (callFunc f args').run P w ∧ VRs ι args args' := by
 unfold ZoF at h
 split at h
 ·rename_i r name hc
  split at h
  ·rename_i t v hv
   obtain ⟨_, h⟩ := Zx h
   split at h
   ·rename_i g x hm
    obtain ⟨hx, h⟩ := Zx h
    injection h with h
    injection h with h1 h2
    subst h1 h2
    have hr : ρ' r = .iface t v := by
     have hv' := hv ▸ hρ r
     generalize ρ' r = x' at hv'
     cases hv' with
     | atom h => rfl
    refine ⟨#[x] ++ c.args.map ρ', ?_, Zfp ⟨rfl, fun i y z hy hz => by
     rw [hy] at hz
     injection hz with hz
     subst hz
     rcases i with _ | i
     ·simp at hy; subst hy; exact VR.of_free1 hx
     ·simp at hy⟩ (Zjj hρ c.args)⟩
    have hm' := ZkG w hm
    have e0 : (#[Value.iface t v] ++ Array.map ρ' c.args)[0]? = some (Value.iface t v) := by
     rw [Array.getElem?_append_left (by simp)]; rfl
    have e2 : (#[Value.iface t v] ++ Array.map ρ' c.args).extract 1 (#[Value.iface t v] ++ Array.map ρ' c.args).size = Array.map ρ' c.args := by
     apply Array.ext'
     simp [Array.toList_extract]
     rw [List.take_of_length_le (by simp)]
    simp only [execOp, ho, resolve, hc, hr, Sem.run_bind, Sem.run_pure, Result.andThen_ok, invoke, e0, callMethod, program, Sem.run, hm', e2]
   ·cases h
  ·cases h
 ·exact ZqA hρ ho h w
theorem ZjP {ι : Ren} {s s' : St} {w : World} {v : Value} {o : Oper} {a : Act} {K : Act → World → Prop} {Q : Exit → Act → World → Prop} (h : Res P ((execOp a.eval o).run P w) s ι w v s')
  (hK : ∀ v' w' ι', Step P ι s.h.get w ι' s'.h.get w' → Dom ι ι' s.n s'.n → VR ι' v v' → K (a.put o.dst v') w') : o.wp P a w K Q := by
 obtain ⟨nx, w', ι', v', hr, hv, h1, h2, h3⟩ := h
 unfold Oper.wp
 try rw [hr]
 rcases hv with rfl | ⟨rfl, rfl⟩
 ·exact hK v' w' ι' h1 h2 h3
 ·exact hK undef w' ι' h1 h2 h3
theorem Zij {ι : Ren} {nt : Nat} {args args' : Array Value} (h : VRs ι args args') (hs : args.size ≤ nt) : TR ι nt [] (ZeR 0 args.toList .nil) { tmps := args' ++ Array.replicate (nt - args'.size) undef, defers := [] } := by
 have key : ∀ (l : List Value) (i : Nat) (T : Tr Value) (t : Nat), (ZeR i l T).get t = if i ≤ t ∧ t < i + l.length then l[t - i]? else T.get t := by
  intro l
  induction l with
  | nil => intro i T t; simp only [ZeR]; rw [if_neg (by rintro ⟨h1, h2⟩; simp only [List.length_nil] at h2; omega)]
  | cons v l ih =>
   intro i T t
   simp only [ZeR]
   rw [ih, Tr.get_set]
   by_cases h1 : t = i
   ·subst h1
    rw [if_neg (by omega), ZK, if_pos (by simp)]
    simp
   ·rw [Zv h1]
    by_cases h2 : i + 1 ≤ t ∧ t < i + 1 + l.length
    ·rw [if_pos h2, if_pos (by simp; omega)]
     have : t - i = (t - (i + 1)) + 1 := by omega
     rw [this, List.getElem?_cons_succ]
    ·rw [if_neg h2, if_neg (by simp; omega)]
 refine ⟨by simp [← h.1, hs], rfl, fun t => ?_⟩
 rw [key]
 by_cases ht : t < args.size
 ·have ht' : t < args'.size := by rw [← h.1]; exact ht
  rw [if_pos (by simp [ht])]
  have e1 : args.toList[t - 0]? = some args[t] := by simp [ht]
  rw [e1, Array.getD_eq_getD_getElem?, Array.getElem?_append_left ht', Array.getElem?_eq_getElem ht']
  exact h.2 t _ _ (Array.getElem?_eq_getElem ht) (Array.getElem?_eq_getElem ht')
 ·rw [if_neg (by simp; omega)]
  have ht' : args'.size ≤ t := by rw [← h.1]; omega
  rw [Array.getD_eq_getD_getElem?, Array.getElem?_append_right ht']
  have : (Array.replicate (nt - args'.size) undef)[t - args'.size]?.getD undef = undef := by
   rw [Array.getElem?_replicate]
   split <;> rfl
  rw [this]
  exact VR.undef'

theorem Zn7 {c : Code} {Q Q' : Exit → Act → World → Prop} (hq : ∀ e a w, Q e a w → Q' e a w) : ∀ (n : Nat) (a : Act) (w : World), Code.rounds P c Q n a w → Code.rounds P c Q' n a w
 | 0, _, _, h => h
 | n + 1, a, w, h => by
  rw [rounds_succ] at h ⊢
  refine wp_mono h ?_
  intro e a1 w1 h1
  cases e with
  | normal => exact Zn7 hq n a1 w1 h1
  | _ => exact hq _ _ _ h1
theorem Step.below {ι : Ren} {h : AH} {w w' : World} (e : Emb P ι h w) (hb : Below w.heap.size w w') : Step P ι h w ι h w' :=
 ⟨fun _ _ h => h, ⟨fun k c t hk => by
   obtain ⟨b, C, q1, q2, q3⟩ := e.obj k c t hk
   exact ⟨b, C, q1, (hb.block b.1 (e.lt k b q1)).trans q2, q3⟩, fun k O hk => by
   obtain ⟨b, q1, q2⟩ := e.ro k O hk
   exact ⟨b, q1, q2.on (hb.block b.1 (e.lt k b q1))⟩, e.inj, fun k b hk => Nat.lt_of_lt_of_le (e.lt k b hk) hb.size, e.marks (fun _ _ h => h) (fun b hlt _ => hb.block b hlt) (fun _ _ _ _ h => h) (fun k d hk hd => .inr ⟨k, d, hk, hd, rfl⟩)⟩,
  hb.os, hb.tape, hb.output, hb.size, fun b hlt _ => hb.block b hlt, fun k b h1 h2 => (by rw [h1] at h2; cases h2), fun _ h1 _ => h1, fun _ h1 _ => h1⟩
theorem Zgd (F : Fit P ext) : ∀ fu : Nat,
  (∀ nt c T s e T' s', ZaR P ext nt fu c T s = some (e, T', s') → (∀ p ∈ s'.ob, p.1 = p.2) → ∀ ι D a w, TR ι nt D T a → Emb P ι s.h.get w → Fresh ι s.n s'.n → c.wp P (Zfo P ι s w nt D e T' s') a w) ∧
  (∀ nt ops l T s T' s', ZhK P ext nt fu ops l T s = some (T', s') → (∀ p ∈ s'.ob, p.1 = p.2) → ∀ ι D a w (Q : Exit → Act → World → Prop), TR ι nt D T a → Emb P ι s.h.get w → Fresh ι s.n s'.n →
   (∀ ι' a' w', Step P ι s.h.get w ι' s'.h.get w' → Dom ι ι' s.n s'.n → TR ι' nt D T' a' → Q .normal a' w') → wpList P ops Q l a w) ∧
  SOp P ext fu ∧
  (∀ f args s v s', ZeU P ext fu f args s = some (v, s') → (∀ p ∈ s'.ob, p.1 = p.2) → ∀ ι w args', VRs ι args args' → Emb P ι s.h.get w → Fresh ι s.n s'.n → Calls P f args' w (ZmX P ι s w v s')) ∧
  (∀ nt c T s e T' s', ZaR P ext nt fu (.loop c) T s = some (e, T', s') → (∀ p ∈ s'.ob, p.1 = p.2) → ∀ ι D a w, TR ι nt D T a → Emb P ι s.h.get w → Fresh ι s.n s'.n → Code.rounds P c (Zfo P ι s w nt D e T' s') fu a w) := by
 intro fu
 induction fu using Nat.strongRecOn with
 | _ fu ihs =>
 cases fu with
 | zero => exact ⟨fun _ _ _ _ _ _ _ h => by simp [ZaR] at h, fun _ _ _ _ _ _ _ h => by simp [ZhK, St.keep_eq] at h, fun _ _ _ _ _ _ h => by simp [Zhj] at h, fun _ _ _ _ _ h => by simp [ZeU] at h, fun _ _ _ _ _ _ _ h => by simp [ZaR] at h⟩
 | succ fu =>
  obtain ⟨ihC, ihO, ihP, ihF, ihL⟩ := ihs fu (Nat.lt_succ_self _)
  obtain ⟨upC, upO, upP, upF, upD, upE⟩ := Zd4 (P := P) (ext := ext) (fun f g hg => (F.hp f g hg).up) fu
  have loops : ∀ nt c T s e T' s', ZaR P ext nt (fu + 1) (.loop c) T s = some (e, T', s') → (∀ p ∈ s'.ob, p.1 = p.2) → ∀ ι D a w, TR ι nt D T a → Emb P ι s.h.get w → Fresh ι s.n s'.n → Code.rounds P c (Zfo P ι s w nt D e T' s') (fu + 1) a w := by
   intro nt x T s e T' s' h ho ι D a w hT he hf
   simp only [ZaR] at h
   rw [rounds_succ]
   split at h
   ·rename_i T1 s1 h1
    have u1 := upC _ _ _ _ _ _ _ h1
    have u2 := upC _ _ _ _ _ _ _ h
    refine wp_mono (ihC nt x T s .normal T1 s1 h1 (ZbA u2.ob ho) ι D a w hT he (hf.mono (Nat.le_refl _) u2.n)) ?_
    rintro ex a1 w1 ⟨rfl, ι1, g1, g2, g3⟩
    refine Zn7 ?_ fu a1 w1 (ihL nt x T1 s1 e T' s' h ho ι1 D a1 w1 g3 g1.emb (hf.after g2 u1.n))
    rintro ex2 a2 w2 ⟨rfl, ι2, k1, k2, k3⟩
    exact ⟨rfl, ι2, g1.trans k1, g2.trans k2 u1.n u2.n, k3⟩
   ·rename_i i T1 s1 h1
    injection h with h; simp only [Prod.mk.injEq] at h; obtain ⟨rfl, rfl, rfl⟩ := h
    refine wp_mono (ihC nt x T s _ _ _ h1 ho ι D a w hT he hf) ?_
    rintro ex a1 w1 ⟨rfl, hq⟩
    exact ⟨rfl, hq⟩
   ·rename_i T1 s1 h1
    injection h with h; simp only [Prod.mk.injEq] at h; obtain ⟨rfl, rfl, rfl⟩ := h
    refine wp_mono (ihC nt x T s _ _ _ h1 ho ι D a w hT he hf) ?_
    rintro ex a1 w1 ⟨rfl, hq⟩
    exact ⟨rfl, hq⟩
   ·cases h
  refine ⟨fun nt c T s e T' s' h ho ι D a w hT he hf => ?_, fun nt ops l T s T' s' h ho ι D a w Q hT he hf hQ => ?_, fun ρ ρ' o s v s' h ho ι w hρ he hf a K Q hex hK => ?_, fun f args s v s' h ho ι w args' ha he hf => ?_, loops⟩
  ·have base : Zfo P ι s w nt D .normal T s .normal a w ∧ Zfo P ι s w nt D .ret T s .ret a w ∧ ∀ i, Zfo P ι s w nt D (.exit i) T s (.exit i) a w :=
    ⟨⟨rfl, ι, Step.refl he, Dom.refl, hT⟩, ⟨rfl, ι, Step.refl he, Dom.refl, hT⟩, fun i => ⟨rfl, ι, Step.refl he, Dom.refl, hT⟩⟩
   -- one part, then the other
   have chain : ∀ {s1 : St} {T1 : Tr Value} {c2 : Code} {a1 : Act} {w1 : World} {ι1 : Ren}, Up s s1 → Up s1 s' → Step P ι s.h.get w ι1 s1.h.get w1 → Dom ι ι1 s.n s1.n → TR ι1 nt D T1 a1 → ZaR P ext nt fu c2 T1 s1 = some (e, T', s') →
     c2.wp P (Zfo P ι s w nt D e T' s') a1 w1 := fun {s1 T1 c2 a1 w1 ι1} u1 u2 h1 h2 h3 h4 => by
    refine wp_mono (ihC nt c2 T1 s1 e T' s' h4 ho ι1 D a1 w1 h3 h1.emb ((hf.mono (Nat.le_refl _) (Nat.le_refl _)).after h2 u1.n)) ?_
    rintro ex a2 w2 ⟨rfl, ι2, g1, g2, g3⟩
    exact ⟨rfl, ι2, (Step.two ⟨h1, h2⟩ ⟨g1, g2⟩ u1.n u2.n).1, (Step.two ⟨h1, h2⟩ ⟨g1, g2⟩ u1.n u2.n).2, g3⟩
   have h0 := h
   cases c <;> simp only [ZaR] at h
   case skip => injection h with h; simp only [Prod.mk.injEq] at h; obtain ⟨rfl, rfl, rfl⟩ := h; exact wp_skip base.1
   case label l => injection h with h; simp only [Prod.mk.injEq] at h; obtain ⟨rfl, rfl, rfl⟩ := h; exact wp_label base.1
   case scope c =>
    refine wp_scope_straight (wp_mono (ihC nt c T s e T' s' h ho ι D a w hT he hf) ?_)
    rintro ex a1 w1 ⟨rfl, hq⟩
    cases e <;> exact ⟨rfl, hq⟩
   case ret => injection h with h; simp only [Prod.mk.injEq] at h; obtain ⟨rfl, rfl, rfl⟩ := h; exact wp_ret base.2.1
   case exit id => injection h with h; simp only [Prod.mk.injEq] at h; obtain ⟨rfl, rfl, rfl⟩ := h; exact wp_exit (base.2.2 id)
   case seq x y =>
    split at h
    ·rename_i T1 s1 h1
     have u1 := upC _ _ _ _ _ _ _ h1
     have u2 := upC _ _ _ _ _ _ _ h
     refine wp_seq (wp_mono (ihC nt x T s .normal T1 s1 h1 (ZbA u2.ob ho) ι D a w hT he (hf.mono (Nat.le_refl _) u2.n)) ?_)
     rintro ex a1 w1 ⟨rfl, ι1, g1, g2, g3⟩
     exact chain u1 u2 g1 g2 g3 h
    ·rename_i i T1 s1 h1
     injection h with h; simp only [Prod.mk.injEq] at h; obtain ⟨rfl, rfl, rfl⟩ := h
     refine wp_seq (wp_mono (ihC nt x T s _ _ _ h1 ho ι D a w hT he hf) ?_)
     rintro ex a1 w1 ⟨rfl, hq⟩
     exact ⟨rfl, hq⟩
    ·rename_i T1 s1 h1
     injection h with h; simp only [Prod.mk.injEq] at h; obtain ⟨rfl, rfl, rfl⟩ := h
     refine wp_seq (wp_mono (ihC nt x T s _ _ _ h1 ho ι D a w hT he hf) ?_)
     rintro ex a1 w1 ⟨rfl, hq⟩
     exact ⟨rfl, hq⟩
    ·cases h
   case cond x y z =>
    split at h
    ·rename_i t ht
     have hx : a.eval x = .bool t := Zfn ((ht ▸ hT.opnd x : VR ι (.bool t) (Zdf a x)).bool_inv)
     split at h
     ·exact wp_cond_true hx (ihC nt y T s e T' s' h ho ι D a w hT he hf)
     ·exact wp_cond_false hx (ihC nt z T s e T' s' h ho ι D a w hT he hf)
    ·cases h
   case block id x =>
    split at h
    ·rename_i i T1 s1 h1
     cases hb : Nat.beq i id with
     | true =>
      rw [hb] at h
      injection h with h; simp only [Prod.mk.injEq] at h; obtain ⟨rfl, rfl, rfl⟩ := h
      refine wp_block (wp_mono (ihC nt x T s _ _ _ h1 ho ι D a w hT he hf) ?_)
      rintro ex a1 w1 ⟨rfl, hq⟩
      show if i = id then _ else _
      rw [if_pos (Nat.eq_of_beq_eq_true hb)]
      exact ⟨rfl, hq⟩
     | false =>
      rw [hb] at h
      injection h with h; simp only [Prod.mk.injEq] at h; obtain ⟨rfl, rfl, rfl⟩ := h
      refine wp_block (wp_mono (ihC nt x T s _ _ _ h1 ho ι D a w hT he hf) ?_)
      rintro ex a1 w1 ⟨rfl, hq⟩
      show if i = id then _ else _
      rw [if_neg (fun e => by rw [ZhM e] at hb; cases hb)]
      exact ⟨rfl, hq⟩
    ·rename_i T1 s1 h1
     injection h with h; simp only [Prod.mk.injEq] at h; obtain ⟨rfl, rfl, rfl⟩ := h
     refine wp_block (wp_mono (ihC nt x T s _ _ _ h1 ho ι D a w hT he hf) ?_)
     rintro ex a1 w1 ⟨rfl, hq⟩
     exact ⟨rfl, hq⟩
    ·rename_i T1 s1 h1
     injection h with h; simp only [Prod.mk.injEq] at h; obtain ⟨rfl, rfl, rfl⟩ := h
     refine wp_block (wp_mono (ihC nt x T s _ _ _ h1 ho ι D a w hT he hf) ?_)
     rintro ex a1 w1 ⟨rfl, hq⟩
     exact ⟨rfl, hq⟩
    ·cases h
   case loop x =>
    exact wp_loop_rounds (fu + 1) (loops nt x T s e T' s' h0 ho ι D a w hT he hf)
   case region id ops draw =>
    cases draw with
    | true =>
     simp only [cond_true] at h
     split at h
     ·rename_i es T1 s1 h1
      injection h with h; simp only [Prod.mk.injEq] at h; obtain ⟨rfl, rfl, rfl⟩ := h
      exact ZsK F (fun fu' hfu => (ihs fu' (by omega)).2.2.1) h1 ho hT he hf fun ι' a' w' g1 g2 g3 => ⟨rfl, ι', g1, g2, g3⟩
     ·cases h
    | false =>
    simp only [cond_false] at h
    split at h
    ·rename_i T1 s1 h1
     injection h with h; simp only [Prod.mk.injEq] at h; obtain ⟨rfl, rfl, rfl⟩ := h
     refine wp_region_list (ihO nt ops ops.toList T s T1 s1 h1 ho ι D a w _ hT he hf fun ι' a' w' g1 g2 g3 => ⟨rfl, ι', g1, g2, g3⟩)
    ·cases h
   all_goals cases h
  ·cases l with
   | nil =>
    simp only [ZhK, St.keep_eq] at h
    injection h with h; simp only [Prod.mk.injEq] at h; obtain ⟨rfl, rfl⟩ := h
    exact hQ ι a w (Step.refl he) Dom.refl hT
   | cons o l =>
    simp only [ZhK, St.keep_eq] at h
    obtain ⟨hg, h⟩ := Zx h
    simp only [Bool.and_eq_true] at hg
    unfold wpList
    split at h
    ·rename_i s1 hw
     split at h
     ·rename_i v s2 hv
      have u1 := Zdx hw
      have u2 := upP _ _ _ _ _ hv
      have u3 := upO _ _ _ _ _ _ _ h
      obtain ⟨hwant, e2, e3⟩ := ZeX (fun t _ => hT.2.2 t) hw
      rw [if_pos hwant]
      refine .inl (ihP (opnd T) (Zdf a) o s1 v s2 hv (ZbA u3.ob ho) ι w hT.opnd (e2 ▸ he) (e3 ▸ (hf.mono (Nat.le_refl _) u3.n)) a _ Q (ZiA (ZkN hv) hg.2).symm fun v' w' ι' g1 g2 g3 => ?_)
      rw [e2] at g1
      rw [e3] at g2
      have hle : s.n ≤ s2.n := by rw [← e3]; exact u2.n
      exact ihO nt ops l (ZeD T o.dst v) s2 T' s' h ho ι' D _ w' Q ((hT.on g1.ext).put hg.1 g3) g1.emb (hf.after g2 hle) fun ι2 a2 w2 k1 k2 k3 =>
       hQ ι2 a2 w2 (g1.trans k1) (g2.trans k2 hle u3.n) k3
     ·cases h
    ·rename_i s1 hw
     have u1 := Zdx hw
     have u3 := upO _ _ _ _ _ _ _ h
     obtain ⟨hwant, e2, e3⟩ := ZeX (fun t _ => hT.2.2 t) hw
     rw [if_neg (by rw [hwant]; simp)]
     refine ihO nt ops l (ZeD T o.dst undef) s1 T' s' h ho ι D _ w Q (hT.put hg.1 VR.undef') (e2 ▸ he) (e3 ▸ hf) fun ι2 a2 w2 k1 k2 k3 => hQ ι2 a2 w2 (e2 ▸ k1) (e3 ▸ k2) k3
    ·cases h
  ·simp only [Zhj] at h
   split at h
   ·rename_i c hc
    obtain ⟨hop, _⟩ := ZrE hc
    split at h
    ·rename_i f args hcal
     obtain ⟨args', hrun, hargs⟩ := ZpC (P := P) hρ hop hcal w
     rw [← hex] at hrun
     split at h
     ·rename_i kk e hx
      split at h
      ·rename_i z c1 s1 hw
       obtain ⟨e1, e2, _⟩ := Zbi hw
       obtain ⟨s2, s3, h4, e3, e4, e5, e6, ho3⟩ := ZsJ ho h rfl
       exact ZjP (((hrun ▸ ZlM F hx hargs (s := s2) (by rw [e3, e1]; exact he) ho3 h4).heap (e3.trans e1).symm (e4.trans e2).symm).behind e5 e6) hK
      ·cases h
      ·rename_i s1 hw
       obtain ⟨e1, e2, _⟩ := Zbi hw
       exact ZjP ((hrun ▸ ZlM F hx hargs (s := s1) (e1 ▸ he) ho h).heap e1.symm e2.symm) hK
     ·rename_i n hx
      exact ZjP (hrun ▸ ZsI F hx hargs he h) hK
     ·rename_i g hx
      have hd := F.hp f g hx
      obtain ⟨fn, c', hfn, hb⟩ := hd.body
      unfold Oper.wp
      rw [hrun, Zeb hfn (F.go f fn hfn) hb, Oper.upon_enter]
      refine (hd.does args s v s' h ho ι w args' hargs he hf).mono ?_
      rintro e2 w2 ⟨v', ι', rfl, g1, g2, g3⟩
      exact hK v' w2 ι' g1 g2 g3
     ·rename_i S hx
      split at h
      ·rename_i pre u post dn s1 hw
       obtain ⟨e1, e2, _⟩ := Zbi hw
       obtain ⟨⟨fn, c', hfn, hb⟩, hS⟩ := F.tc f S hx
       unfold Oper.wp
       rw [hrun, Zeb hfn (F.go f fn hfn) hb, Oper.upon_enter]
       refine (ZsH hS h ho hargs (e1 ▸ he) (e2 ▸ hf)).mono ?_
       rintro e2' w2 ⟨v', ι', rfl, g1, g2, g3⟩
       exact hK v' w2 ι' (e1 ▸ g1) (e2 ▸ g2) g3
      ·cases h
     ·rename_i g hx
      unfold Zsz at h
      obtain ⟨hfree, h⟩ := Zx h
      split at h
      ·rename_i v1 hg
       obtain ⟨hfv, h⟩ := Zx h
       injection h with h; injection h with q1 q2; subst q1 q2
       have hae : args' = args := ZnF hargs.1 fun i x y hx1 hy1 => (hargs.2 i x y hx1 hy1).eq_of_free (Zc5 hfree i x hx1)
       subst hae
       obtain ⟨⟨fn, c', hfn, hb⟩, hcall⟩ := F.fn f g hx
       unfold Oper.wp
       rw [hrun, Zeb hfn (F.go f fn hfn) hb, Oper.upon_enter]
       refine (hcall args' v1 hfree hg w).mono ?_
       rintro e2 w2 ⟨rfl, hbel⟩
       exact hK v1 w2 ι (Step.below he hbel) Dom.refl (VR.of_free hfv)
      ·cases h
     ·have hcalls := ihF f args s v s' h ho ι w args' hargs he hf
      cases fu with
      | zero => simp [ZeU] at h
      | succ fu' =>
       have h' := h
       simp only [ZeU] at h'
       split at h'
       ·rename_i fn hfn
        split at h'
        ·rename_i c' hb
         unfold Oper.wp
         rw [hrun, Zeb hfn (F.go f fn hfn) hb, Oper.upon_enter]
         refine hcalls.mono ?_
         rintro e2 w2 ⟨v', ι', rfl, g1, g2, g3⟩
         exact hK v' w2 ι' g1 g2 g3
        ·cases h'
       ·cases h'
    ·cases h
   ·split at h
    ·rename_i v1 s1 h1
     injection h with h
     obtain ⟨e1, e2, e3⟩ := ZuV h ho
     subst e1
     rw [e2, e3] at hK
     rw [e3] at hf
     have := Ztn hρ he hf (ZbA (ZrY h).ob ho) h1
     rw [← hex] at this
     exact ZjP this hK
    ·cases h
  ·simp only [ZeU] at h
   split at h
   ·rename_i fn hfn
    split at h
    ·rename_i c hb
     obtain ⟨hsz, h⟩ := Zx h
     have hle : args.size ≤ fn.ntmps := Nat.le_of_ble_eq_true hsz
     split at h
     ·cases h
     ·rename_i ex T1 s1 hne h1
      have hs : s' = s1 ∧ (match Zcz P T1 s1 fn.results.toList with | some [v] => some v | some vs => some (.tuple vs.toArray) | none => none) = some v := by
       split at h
       ·rename_i hr; injection h with h; injection h with q1 q2; subst q1 q2; exact ⟨rfl, by first | rw [hr] | rfl⟩
       ·rename_i vs hn hr; injection h with h; injection h with q1 q2; subst q1 q2
        refine ⟨rfl, ?_⟩
        try rw [hr]
        rcases vs with _ | ⟨x, _ | ⟨y, vs⟩⟩
        ·rfl
        ·exact absurd rfl (hn x)
        ·rfl
       ·cases h
      obtain ⟨rfl, hres⟩ := hs
      refine calls_of_wp hfn hb (wp_mono (ihC fn.ntmps c _ s ex T1 s' h1 ho ι [] _ w (Zij ha hle) he hf) ?_)
      rintro e2 a2 w2 ⟨rfl, ι2, g1, g2, g3⟩
      obtain ⟨v', hrun, hv⟩ := ZdV g3 g1.emb hres
      cases ex with
      | normal => exact ⟨g3.2.1, v', hrun, v', ι2, rfl, g1, g2, hv⟩
      | ret => exact ⟨g3.2.1, v', hrun, v', ι2, rfl, g1, g2, hv⟩
      | exit i => exact (hne i rfl).elim
     ·cases h
    ·cases h
   ·cases h

theorem Zvc {ι : Ren} : VRs ι ([] : List Value).toArray ([] : List Value).toArray := ⟨rfl, fun i x y hx => by simp at hx⟩
theorem Zuk {ι : Ren} {x y : Value} {l l' : List Value} (h : VR ι x y) (t : VRs ι l.toArray l'.toArray) : VRs ι (x :: l).toArray (y :: l').toArray := by
 refine ⟨by simpa using t.1, fun i u v hu hv => ?_⟩
 cases i with
 | zero => simp at hu hv; subst hu hv; exact h
 | succ i => exact t.2 i u v (by simpa using hu) (by simpa using hv)
theorem VRs.of_free {ι : Ren} {args : Array Value} (ha : ZU Zer args.toList = true) : VRs ι args args := ⟨rfl, fun i x y hx hy => by rw [hx] at hy; injection hy with hy; subst hy; exact VR.of_free (Zc5 ha i x hx)⟩
end
end Ev
end Go.Proofs.YtjdojnecmplmnaaGreat
/- Functions with deferred calls. -/
namespace Go.Proofs.YtjdojnecmplmnaaGreat
open Go.RowKit
namespace Ev
noncomputable section
def Zsb (o : Oper) : Option Call :=
 match o.op with
 | .defer c => some c
 | _ => none
def ZgW (P : Program) (ext : FuncId → Option Ext) (nt fu : Nat) (ops : Array Oper) : List Oper → Tr Value → St → List (FuncId × Array Value) → Option (Tr Value × St × List (FuncId × Array Value))
 | [], T, s, ds => some (T, s, ds)
 | o :: l, T, s, ds =>
  bif Zhh nt o.dst && ZU ZgU o.op.operands.toList then
   match Zfz ops T o s with
   | some (true, s1) => match Zsb o with
    | some c => match callee (opnd T) c with
     | some (f, args) => ZgW P ext nt fu ops l (ZeD T o.dst undef) s1 ((f, args) :: ds)
     | none => none
    | none => match Zhj P ext fu (opnd T) o s1 with
     | some (v, s') => ZgW P ext nt fu ops l (ZeD T o.dst v) s' ds
     | none => none
   | some (false, s1) => ZgW P ext nt fu ops l (ZeD T o.dst undef) s1 ds
   | none => none
  else none
def evD (P : Program) (ext : FuncId → Option Ext) (nt : Nat) : Nat → Code → Tr Value → St → List (FuncId × Array Value) → Option (Bool × Tr Value × St × List (FuncId × Array Value))
 | 0, _, _, _, _ => none
 | fu + 1, c, T, s, ds => match c with
  | .seq a b => match evD P ext nt fu a T s ds with
   | some (false, T', s', ds') => evD P ext nt fu b T' s' ds'
   | some (true, T', s', ds') => some (true, T', s', ds')
   | none => none
  | .cond x a b => match opnd T x with
   | .bool t => match t with
    | true => evD P ext nt fu a T s ds
    | false => evD P ext nt fu b T s ds
   | _ => none
  | .region _ ops draw => match draw with
   | true => none
   | false => match ZgW P ext nt fu ops ops.toList T s ds with
    | some (T', s', ds') => some (false, T', s', ds')
    | none => none
  | .skip => some (false, T, s, ds)
  | .ret => some (true, T, s, ds)
  | _ => none
def ZhA (P : Program) (ext : FuncId → Option Ext) (fu : Nat) : List (FuncId × Array Value) → St → Option St
 | [], s => some s
 | d :: ds, s => match ZeU P ext fu d.1 d.2 s with
  | some (_, s') => ZhA P ext fu ds s'
  | none => none
def ZmZ (P : Program) (ext : FuncId → Option Ext) (fu : Nat) (f : FuncId) (args : Array Value) (s : St) : Out :=
 match P.funcs[f]? with
 | some fn => match fn.body with
  | some c => bif Nat.ble args.size fn.ntmps then match evD P ext fn.ntmps fu c (ZeR 0 args.toList .nil) s [] with
   | some (_, T, s', ds) => match ZhA P ext fu ds s' with
    | some s2 => match Zcz P T s2 fn.results.toList with
     | some [v] => some (v, s2)
     | some vs => some (.tuple vs.toArray, s2)
     | none => none
    | none => none
   | none => none
   else none
  | none => none
 | none => none
end
section
variable {P : Program} {ext : FuncId → Option Ext}
def DR (ι : Ren) : List (FuncId × Array Value) → List Deferred → Prop
 | [], [] => True
 | d :: ds, x :: D => (∃ b, x.target = .fn (.func d.1) b ∧ VRs ι d.2 (x.args ++ b)) ∧ DR ι ds D
 | _, _ => False
theorem DR.on {ι ι' : Ren} (hi : ∀ k b, ι k = some b → ι' k = some b) : ∀ {ds : List (FuncId × Array Value)} {D : List Deferred}, DR ι ds D → DR ι' ds D
 | [], [], _ => trivial
 | [], _ :: _, h => h.elim
 | _ :: _, [], h => h.elim
 | _ :: _, _ :: _, h => ⟨let ⟨b, h1, h2⟩ := h.1; ⟨b, h1, h2.ext hi⟩, DR.on hi h.2⟩
theorem ZrF {ι : Ren} {ρ ρ' : Operand → Value} {o : Oper} {c : Call} {f : FuncId} {args : Array Value} (hρ : ∀ x, VR ι (ρ x) (ρ' x)) (ho : o.op = .defer c) (h : callee ρ c = some (f, args)) (w : World) :
  ∃ d b, (execOp ρ' o).run P w = .ok (.defer d) w ∧ d.target = .fn (.func f) b ∧ VRs ι args (d.args ++ b) := by
 unfold callee at h
 split at h
 ·rename_i x hx
  split at h
  ·rename_i g a b hg
   injection h with h; injection h with h1 h2; subst h1 h2
   have hv := hg ▸ hρ x
   have : ∃ a' b', ρ' x = .func (.func g) a' b' ∧ VRs ι a a' ∧ VRs ι b b' := by
    generalize ρ' x = x' at hv
    cases hv with
    | atom h =>
     simp [Ev.atom] at h
     obtain ⟨rfl, rfl⟩ := h
     exact ⟨_, _, rfl, ⟨rfl, fun i x y hx => by simp at hx⟩, ⟨rfl, fun i x y hx => by simp at hx⟩⟩
    | func hs ht h1 h2 => exact ⟨_, _, rfl, ⟨hs, h1⟩, ⟨ht, h2⟩⟩
   obtain ⟨a', b', hx', ha, hb⟩ := this
   refine ⟨{ target := .fn (.func g) b', args := a' ++ c.args.map ρ' }, b', ?_, rfl, Zfp (Zfp ha (Zjj hρ c.args)) hb⟩
   simp [execOp, ho, resolve, hx, hx', Deferred.ofValue, Result.andThen, Sem.run]
  ·cases h
 ·cases h
theorem Zkw (F : Fit P ext) {nt fu : Nat} {ops : Array Oper} : ∀ (l : List Oper) (T : Tr Value) (s : St) (ds : List (FuncId × Array Value)) (T' : Tr Value) (s' : St) (ds' : List (FuncId × Array Value)), ZgW P ext nt fu ops l T s ds = some (T', s', ds') → Up s s'
 | [], T, s, ds, T', s', ds', h => by simp only [ZgW] at h; injection h with h; simp only [Prod.mk.injEq] at h; obtain ⟨_, rfl, _⟩ := h; exact Up.refl _
 | o :: l, T, s, ds, T', s', ds', h => by
  simp only [ZgW] at h
  replace h := (Zx h).2
  have uP := (Zd4 (P := P) (ext := ext) (fun f g hg => (F.hp f g hg).up) fu).2.2.1
  split at h
  ·split at h
   ·split at h
    ·exact (Zdx (by assumption)).trans (Zkw F l _ _ _ _ _ _ h)
    ·cases h
   ·split at h
    ·exact (Zdx (by assumption)).trans ((uP _ _ _ _ _ (by assumption)).trans (Zkw F l _ _ _ _ _ _ h))
    ·cases h
  ·exact (Zdx (by assumption)).trans (Zkw F l _ _ _ _ _ _ h)
  ·cases h
theorem ZkO (F : Fit P ext) {nt : Nat} : ∀ (fu : Nat) (c : Code) (T : Tr Value) (s : St) (ds : List (FuncId × Array Value)) (r : Bool) (T' : Tr Value) (s' : St) (ds' : List (FuncId × Array Value)), evD P ext nt fu c T s ds = some (r, T', s', ds') → Up s s'
 | 0, _, _, _, _, _, _, _, _, h => by simp [evD] at h
 | fu + 1, c, T, s, ds, r, T', s', ds', h => by
  cases c <;> simp only [evD] at h
  case seq a b =>
   split at h
   ·exact (ZkO F fu _ _ _ _ _ _ _ _ (by assumption)).trans (ZkO F fu _ _ _ _ _ _ _ _ h)
   ·injection h with h; simp only [Prod.mk.injEq] at h; obtain ⟨_, _, rfl, _⟩ := h; exact ZkO F fu _ _ _ _ _ _ _ _ (by assumption)
   ·cases h
  case cond x a b =>
   split at h
   ·split at h
    ·exact ZkO F fu _ _ _ _ _ _ _ _ h
    ·exact ZkO F fu _ _ _ _ _ _ _ _ h
   ·cases h
  case region id ops draw =>
   split at h
   ·cases h
   ·split at h
    ·injection h with h; simp only [Prod.mk.injEq] at h; obtain ⟨_, _, rfl, _⟩ := h; exact Zkw F _ _ _ _ _ _ _ (by assumption)
    ·cases h
  case skip => injection h with h; simp only [Prod.mk.injEq] at h; obtain ⟨_, _, rfl, _⟩ := h; exact Up.refl _
  case ret => injection h with h; simp only [Prod.mk.injEq] at h; obtain ⟨_, _, rfl, _⟩ := h; exact Up.refl _
  all_goals cases h
theorem ZkP (F : Fit P ext) {fu : Nat} : ∀ (ds : List (FuncId × Array Value)) (s s' : St), ZhA P ext fu ds s = some s' → Up s s'
 | [], s, s', h => by simp only [ZhA] at h; injection h with h; subst h; exact Up.refl _
 | d :: ds, s, s', h => by
  simp only [ZhA] at h
  split at h
  ·exact ((Zd4 (P := P) (ext := ext) (fun f g hg => (F.hp f g hg).up) fu).2.2.2.1 _ _ _ _ _ (by assumption)).trans (ZkP F ds _ _ h)
  ·cases h
theorem ZiZ (F : Fit P ext) {nt fu : Nat} {ops : Array Oper} : ∀ (l : List Oper) (T : Tr Value) (s : St) (ds : List (FuncId × Array Value)) (T' : Tr Value) (s' : St) (ds' : List (FuncId × Array Value)), ZgW P ext nt fu ops l T s ds = some (T', s', ds') → (∀ p ∈ s'.ob, p.1 = p.2) →
  ∀ ι D a w (Q : Exit → Act → World → Prop), TR ι nt D T a → DR ι ds D → Emb P ι s.h.get w → Fresh ι s.n s'.n →
   (∀ ι' D' a' w', Step P ι s.h.get w ι' s'.h.get w' → Dom ι ι' s.n s'.n → TR ι' nt D' T' a' → DR ι' ds' D' → Q .normal a' w') → wpList P ops Q l a w
 | [], T, s, ds, T', s', ds', h, ho, ι, D, a, w, Q, hT, hD, he, hf, hQ => by
  simp only [ZgW] at h
  injection h with h; simp only [Prod.mk.injEq] at h; obtain ⟨rfl, rfl, rfl⟩ := h
  exact hQ ι D a w (Step.refl he) Dom.refl hT hD
 | o :: l, T, s, ds, T', s', ds', h, ho, ι, D, a, w, Q, hT, hD, he, hf, hQ => by
  simp only [ZgW] at h
  obtain ⟨hg, h⟩ := Zx h
  simp only [Bool.and_eq_true] at hg
  unfold wpList
  split at h
  ·rename_i s1 hw
   have u1 := Zdx hw
   obtain ⟨hwant, e2, e3⟩ := ZeX (fun t _ => hT.2.2 t) hw
   rw [if_pos hwant]
   split at h
   ·rename_i c hc
    have hop : o.op = .defer c := by
     unfold Zsb at hc
     split at hc
     ·rename_i c' h'; injection hc with hc; subst hc; exact h'
     ·cases hc
    split at h
    ·rename_i f args hcal
     obtain ⟨d, b, hrun, h1, h2⟩ := ZrF (P := P) hT.opnd hop hcal w
     rw [ZiA (fun cs b e => by rw [hop] at e; cases e) hg.2] at hrun
     refine .inl ?_
     unfold Oper.wp
     rw [hrun, Oper.upon_defer]
     refine ZiZ F l _ s1 _ T' s' ds' h ho ι (d :: D) _ w Q ?_ ⟨⟨b, h1, h2⟩, hD⟩ (e2 ▸ he) (e3 ▸ hf) fun ι2 D2 a2 w2 k1 k2 k3 k4 => hQ ι2 D2 a2 w2 (e2 ▸ k1) (e3 ▸ k2) k3 k4
     exact TR.put (a := { a with defers := d :: a.defers }) ⟨hT.1, by rw [hT.2.1], hT.2.2⟩ hg.1 VR.undef'
    ·cases h
   ·split at h
    ·rename_i v s2 hv
     have ua := Zd4 (P := P) (ext := ext) (fun f g hg => (F.hp f g hg).up) fu
     have u2 := ua.2.2.1 _ _ _ _ _ hv
     have u3 := Zkw F _ _ _ _ _ _ _ h
     refine .inl ((Zgd F fu).2.2.1 (opnd T) (Zdf a) o s1 v s2 hv (ZbA u3.ob ho) ι w hT.opnd (e2 ▸ he) (e3 ▸ (hf.mono (Nat.le_refl _) u3.n)) a _ Q (ZiA (ZkN hv) hg.2).symm fun v' w' ι' g1 g2 g3 => ?_)
     rw [e2] at g1
     rw [e3] at g2
     have hle : s.n ≤ s2.n := by rw [← e3]; exact u2.n
     exact ZiZ F l (ZeD T o.dst v) s2 ds T' s' ds' h ho ι' D _ w' Q ((hT.on g1.ext).put hg.1 g3) (hD.on g1.ext) g1.emb (hf.after g2 hle) fun ι2 D2 a2 w2 k1 k2 k3 k4 =>
      hQ ι2 D2 a2 w2 (g1.trans k1) (g2.trans k2 hle u3.n) k3 k4
    ·cases h
  ·rename_i s1 hw
   have u1 := Zdx hw
   obtain ⟨hwant, e2, e3⟩ := ZeX (fun t _ => hT.2.2 t) hw
   rw [if_neg (by rw [hwant]; simp)]
   exact ZiZ F l (ZeD T o.dst undef) s1 ds T' s' ds' h ho ι D _ w Q (hT.put hg.1 VR.undef') hD (e2 ▸ he) (e3 ▸ hf) fun ι2 D2 a2 w2 k1 k2 k3 k4 => hQ ι2 D2 a2 w2 (e2 ▸ k1) (e3 ▸ k2) k3 k4
  ·cases h
def PostD (P : Program) (ι : Ren) (s : St) (w : World) (nt : Nat) (r : Bool) (T' : Tr Value) (s' : St) (ds' : List (FuncId × Array Value)) (ex : Exit) (a' : Act) (w' : World) : Prop :=
 ex = (match r with | true => .ret | false => .normal) ∧ ∃ ι' D', Step P ι s.h.get w ι' s'.h.get w' ∧ Dom ι ι' s.n s'.n ∧ TR ι' nt D' T' a' ∧ DR ι' ds' D'
theorem Zjk (F : Fit P ext) {nt : Nat} : ∀ (fu : Nat) (c : Code) (T : Tr Value) (s : St) (ds : List (FuncId × Array Value)) (r : Bool) (T' : Tr Value) (s' : St) (ds' : List (FuncId × Array Value)), evD P ext nt fu c T s ds = some (r, T', s', ds') → (∀ p ∈ s'.ob, p.1 = p.2) →
  ∀ ι D a w, TR ι nt D T a → DR ι ds D → Emb P ι s.h.get w → Fresh ι s.n s'.n → c.wp P (PostD P ι s w nt r T' s' ds') a w
 | 0, _, _, _, _, _, _, _, _, h => by simp [evD] at h
 | fu + 1, c, T, s, ds, r, T', s', ds', h => by
  intro ho ι D a w hT hD he hf
  cases c <;> simp only [evD] at h
  case seq x y =>
   split at h
   ·rename_i T1 s1 ds1 h1
    have u1 := ZkO F fu _ _ _ _ _ _ _ _ h1
    have u2 := ZkO F fu _ _ _ _ _ _ _ _ h
    refine wp_seq (wp_mono (Zjk F fu x T s ds _ T1 s1 ds1 h1 (ZbA u2.ob ho) ι D a w hT hD he (hf.mono (Nat.le_refl _) u2.n)) ?_)
    rintro ex a1 w1 ⟨rfl, ι1, D1, g1, g2, g3, g4⟩
    refine wp_mono (Zjk F fu y T1 s1 ds1 r T' s' ds' h ho ι1 D1 a1 w1 g3 g4 g1.emb (hf.after g2 u1.n)) ?_
    rintro ex a2 w2 ⟨rfl, ι2, D2, k1, k2, k3, k4⟩
    exact ⟨rfl, ι2, D2, g1.trans k1, g2.trans k2 u1.n u2.n, k3, k4⟩
   ·rename_i T1 s1 ds1 h1
    injection h with h; simp only [Prod.mk.injEq] at h; obtain ⟨rfl, rfl, rfl, rfl⟩ := h
    refine wp_seq (wp_mono (Zjk F fu x T s ds _ _ _ _ h1 ho ι D a w hT hD he hf) ?_)
    rintro ex a1 w1 ⟨rfl, hq⟩
    exact ⟨rfl, hq⟩
   ·cases h
  case cond x y z =>
   split at h
   ·rename_i t ht
    have hx : a.eval x = .bool t := Zfn ((ht ▸ hT.opnd x : VR ι (.bool t) (Zdf a x)).bool_inv)
    split at h
    ·exact wp_cond_true hx (Zjk F fu y T s ds r T' s' ds' h ho ι D a w hT hD he hf)
    ·exact wp_cond_false hx (Zjk F fu z T s ds r T' s' ds' h ho ι D a w hT hD he hf)
   ·cases h
  case region id ops draw =>
   split at h
   ·cases h
   ·split at h
    ·rename_i T1 s1 ds1 h1
     injection h with h; simp only [Prod.mk.injEq] at h; obtain ⟨rfl, rfl, rfl, rfl⟩ := h
     exact wp_region_list (ZiZ F ops.toList T s ds T1 s1 ds1 h1 ho ι D a w _ hT hD he hf fun ι' D' a' w' g1 g2 g3 g4 => ⟨rfl, ι', D', g1, g2, g3, g4⟩)
    ·cases h
  case skip => injection h with h; simp only [Prod.mk.injEq] at h; obtain ⟨rfl, rfl, rfl, rfl⟩ := h; exact wp_skip ⟨rfl, ι, D, Step.refl he, Dom.refl, hT, hD⟩
  case ret => injection h with h; simp only [Prod.mk.injEq] at h; obtain ⟨rfl, rfl, rfl, rfl⟩ := h; exact wp_ret ⟨rfl, ι, D, Step.refl he, Dom.refl, hT, hD⟩
  all_goals cases h
theorem Zvd (F : Fit P ext) {fu : Nat} {f : FuncId} {args args' : Array Value} {s s' : St} {v : Value} (h : ZeU P ext fu f args s = some (v, s')) (ho : ∀ p ∈ s'.ob, p.1 = p.2) {ι : Ren} {w : World} (ha : VRs ι args args') (he : Emb P ι s.h.get w) (hf : Fresh ι s.n s'.n) :
  ∃ fn c, P.funcs[f]? = some fn ∧ fn.body = some c ∧ c.wp P (bodyPost P fn (ZmX P ι s w v s')) { tmps := args' ++ Array.replicate (fn.ntmps - args'.size) undef, defers := [] } w := by
 cases fu with
 | zero => simp [ZeU] at h
 | succ fu =>
  simp only [ZeU] at h
  split at h
  ·rename_i fn hfn
   split at h
   ·rename_i c hb
    obtain ⟨hsz, h⟩ := Zx h
    have hle : args.size ≤ fn.ntmps := Nat.le_of_ble_eq_true hsz
    split at h
    ·cases h
    ·rename_i ex T1 s1 hne h1
     have hs : s' = s1 ∧ (match Zcz P T1 s1 fn.results.toList with | some [v] => some v | some vs => some (.tuple vs.toArray) | none => none) = some v := by
      split at h
      ·rename_i hr; injection h with h; injection h with q1 q2; subst q1 q2; exact ⟨rfl, by first | rw [hr] | rfl⟩
      ·rename_i vs hn hr; injection h with h; injection h with q1 q2; subst q1 q2
       refine ⟨rfl, ?_⟩
       try rw [hr]
       rcases vs with _ | ⟨x, _ | ⟨y, vs⟩⟩
       ·rfl
       ·exact absurd rfl (hn x)
       ·rfl
      ·cases h
     obtain ⟨rfl, hres⟩ := hs
     refine ⟨fn, c, hfn, hb, wp_mono ((Zgd F fu).1 fn.ntmps c _ s ex T1 s' h1 ho ι [] _ w (Zij ha hle) he hf) ?_⟩
     rintro e2 a2 w2 ⟨rfl, ι2, g1, g2, g3⟩
     obtain ⟨v', hrun, hv⟩ := ZdV g3 g1.emb hres
     cases ex with
     | normal => exact ⟨g3.2.1, v', hrun, v', ι2, rfl, g1, g2, hv⟩
     | ret => exact ⟨g3.2.1, v', hrun, v', ι2, rfl, g1, g2, hv⟩
     | exit i => exact (hne i rfl).elim
    ·cases h
   ·cases h
  ·cases h
theorem Zn8 (F : Fit P ext) {fu : Nat} {fn : Func} {tmps : Array Value} {R : Ending → World → Prop} : ∀ (ds : List (FuncId × Array Value)) (s s' : St), ZhA P ext fu ds s = some s' → (∀ p ∈ s'.ob, p.1 = p.2) →
  ∀ ι D w, DR ι ds D → Emb P ι s.h.get w → Fresh ι s.n s'.n → (∀ ι' w', Step P ι s.h.get w ι' s'.h.get w' → Dom ι ι' s.n s'.n → Leaves P fn tmps R [] .returning w') → Leaves P fn tmps R D .returning w
 | [], s, s', h, ho, ι, D, w, hD, he, hf, hR => by
  simp only [ZhA] at h
  injection h with h; subst h
  cases D with
  | nil => exact hR ι w (Step.refl he) Dom.refl
  | cons _ _ => exact hD.elim
 | d :: ds, s, s', h, ho, ι, D, w, hD, he, hf, hR => by
  simp only [ZhA] at h
  split at h
  ·rename_i v s1 h1
   cases D with
   | nil => exact hD.elim
   | cons x D =>
    obtain ⟨⟨b, ht, hargs⟩, hD⟩ := hD
    have u1 := (Zd4 (P := P) (ext := ext) (fun f g hg => (F.hp f g hg).up) fu).2.2.2.1 _ _ _ _ _ h1
    have u2 := ZkP F ds _ _ h
    obtain ⟨fn', c, hfn, hb, hwp⟩ := Zvd F h1 (ZbA u2.ob ho) hargs he (hf.mono (Nat.le_refl _) u2.n)
    refine ⟨by simp, _, _, d.1, x.args ++ b, ht, ?_, ?_⟩
    ·rw [ht]
     exact Zeb hfn (F.go _ _ hfn) hb _ _
    ·refine (callsD_of_wp (u := .returning) hfn hb hwp).mono ?_
     rintro e u' w' ⟨rfl, v', ι', rfl, g1, g2, g3⟩
     exact Zn8 F ds s1 s' h ho ι' D w' (hD.on g1.ext) g1.emb (hf.after g2 u1.n) fun ι2 w2 k1 k2 => hR ι2 w2 (g1.trans k1) (g2.trans k2 u1.n u2.n)
  ·cases h
theorem ZsL (F : Fit P ext) {fu : Nat} {f : FuncId} {fn : Func} {c : Code} (hfn : P.funcs[f]? = some fn) (hb : fn.body = some c) : ZoJ P f (ZmZ P ext fu f) := by
 refine ⟨⟨fn, c, hfn, hb⟩, fun args s v s' h => ?_, fun args s v s' h ho ι w args' ha he hf => ?_⟩
 ·unfold ZmZ at h
  rw [hfn] at h
  simp only [hb] at h
  replace h := (Zx h).2
  split at h
  ·rename_i r T s1 ds h1
   split at h
   ·rename_i s2 h2
    have u := (ZkO F fu _ _ _ _ _ _ _ _ h1).trans (ZkP F _ _ _ h2)
    split at h
    ·injection h with h; injection h with q1 q2; subst q2; exact u
    ·injection h with h; injection h with q1 q2; subst q2; exact u
    ·cases h
   ·cases h
  ·cases h
 ·unfold ZmZ at h
  rw [hfn] at h
  simp only [hb] at h
  obtain ⟨hsz, h⟩ := Zx h
  have hle : args.size ≤ fn.ntmps := Nat.le_of_ble_eq_true hsz
  split at h
  ·rename_i r T s1 ds h1
   split at h
   ·rename_i s2 h2
    have hs : s' = s2 ∧ (match Zcz P T s2 fn.results.toList with | some [v] => some v | some vs => some (.tuple vs.toArray) | none => none) = some v := by
     split at h
     ·rename_i hr; injection h with h; injection h with q1 q2; subst q1 q2; exact ⟨rfl, rfl⟩
     ·rename_i vs hn hr; injection h with h; injection h with q1 q2; subst q1 q2
      exact ⟨rfl, rfl⟩
     ·cases h
    obtain ⟨rfl, hres⟩ := hs
    have u1 := ZkO F fu _ _ _ _ _ _ _ _ h1
    have u2 := ZkP F _ _ _ h2
    refine calls_of_wp_defers hfn hb (wp_mono (Zjk F fu c _ s [] r T s1 ds h1 (ZbA u2.ob ho) ι [] _ w (Zij ha hle) trivial he (hf.mono (Nat.le_refl _) u2.n)) ?_)
    rintro ex a1 w1 ⟨rfl, ι1, D1, g1, g2, g3, g4⟩
    have key : Leaves P fn a1.tmps (ZmX P ι s w v s') a1.defers .returning w1 := by
     rw [g3.2.1]
     refine Zn8 F ds s1 s' h2 ho ι1 D1 w1 g4 g1.emb (hf.after g2 u1.n) fun ι2 w2 k1 k2 => ?_
     obtain ⟨v', hrun, hv⟩ := ZdV (g3.on k1.ext) k1.emb hres
     exact ⟨v', hrun, v', ι2, rfl, g1.trans k1, g2.trans k2 u1.n u2.n, hv⟩
    cases r <;> exact key
   ·cases h
  ·cases h
end
end Ev
end Go.Proofs.YtjdojnecmplmnaaGreat
/- Loops by induction: a round by the runner, between rounds the blocks are numbered anew. -/
namespace Go.Proofs.YtjdojnecmplmnaaGreat
open Go.RowKit
namespace Ev
def renA (ρ : Nat → Nat) : Value → Value
 | .pointer (some ⟨k, o, none⟩) => .pointer (some ⟨ρ k, o, none⟩)
 | .slice (some ⟨k, o, none⟩) n c => .slice (some ⟨ρ k, o, none⟩) n c
 | .map (some k) => .map (some (ρ k))
 | v => v
def ZhO (f : Value → Value) (a : Array Value) : Array Value := (a.toList.map f).toArray
theorem Zsc (f : Value → Value) (a : Array Value) : ZhO f a = a.map f := by
 unfold ZhO
 apply Array.ext' 
 simp
def ZbJ (ρ : Nat → Nat) : Nat → Value → Value
 | d + 1, .agg cs => .agg (ZhO (ZbJ ρ d) cs)
 | d + 1, .tuple cs => .tuple (ZhO (ZbJ ρ d) cs)
 | d + 1, .func f a b => .func f (ZhO (ZbJ ρ d) a) (ZhO (ZbJ ρ d) b)
 | _, v => renA ρ v
def Zby : Nat → Value → Bool
 | d + 1, .agg cs => ZU (Zby d) cs.toList
 | d + 1, .tuple cs => ZU (Zby d) cs.toList
 | d + 1, .func _ a b => ZU (Zby d) a.toList && ZU (Zby d) b.toList
 | 0, .agg _ => false
 | 0, .tuple _ => false
 | 0, .func _ a b => a.isEmpty && b.isEmpty
 | _, _ => true
section
variable {P : Program} {ext : FuncId → Option Ext}
theorem Zjl {ι : Ren} {f : Value → Value} {a a' : Array Value} (hs : a.size = a'.size) (h : ∀ (i : Nat) x y, a[i]? = some x → a'[i]? = some y → VR ι (f x) y) : (ZhO f a).size = a'.size ∧ ∀ (i : Nat) x y, (ZhO f a)[i]? = some x → a'[i]? = some y → VR ι x y := by
 rw [Zsc]
 refine ⟨by simpa using hs, fun i x y hx hy => ?_⟩
 rw [Array.getElem?_map] at hx
 cases ha : a[i]? with
 | none => rw [ha] at hx; cases hx
 | some z => rw [ha] at hx; injection hx with hx; subst hx; exact h i z y ha hy
theorem Zpy {ρ : Nat → Nat} {v : Value} (h : atom v = true) : renA ρ v = v := by
 cases v with
 | pointer a => cases a with
  | none => rfl
  | some a => simp [atom] at h
 | slice a n c => cases a with
  | none => rfl
  | some a => simp [atom] at h
 | map a => cases a with
  | none => rfl
  | some a => simp [atom] at h
 | _ => rfl
theorem ZiB {ρ : Nat → Nat} (d : Nat) {v : Value} (h : atom v = true) : ZbJ ρ d v = v := by
 cases d with
 | zero => exact Zpy h
 | succ d =>
  cases v with
  | agg cs => simp [atom] at h
  | tuple cs => simp [atom] at h
  | func f a b =>
   cases f <;> simp [atom] at h
   obtain ⟨h1, h2⟩ := h
   subst h1 h2
   simp [ZbJ, ZhO]
  | _ => exact Zpy h
theorem Zik {ι ι2 : Ren} {ρ : Nat → Nat} (hι : ∀ k b, ι k = some b → ι2 (ρ k) = some b) (hm : ∀ b base id, ρ (Zbp b base id) = Zbp b base id) : ∀ (d : Nat) (v v' : Value), VR ι v v' → Zby d v = true → VR ι2 (ZbJ ρ d v) v'
 | d, v, v', h, hd => by
  cases h with
  | atom h => rw [ZiB d h]; exact .atom h
  | glob h => cases d <;> exact .glob h
  | ptr h => cases d <;> exact .ptr (hι _ _ h)
  | map h => cases d <;> exact .map (hι _ _ h)
  | slice h hn hc hq => cases d <;> exact .slice (hι _ _ h) hn hc hq
  | slice0 h =>
   rename_i A _
   obtain ⟨k, o, sp⟩ := A
   cases sp <;> cases d <;> exact .slice0 h
  | mptr h =>
   have h' := hι _ _ h
   rw [hm] at h'
   cases d <;> exact .mptr h'
  | mslice h hn hc =>
   have h' := hι _ _ h
   rw [hm] at h'
   cases d <;> exact .mslice h' hn hc
  | func hs ht h1 h2 =>
   cases d with
   | zero =>
    simp only [Zby, Bool.and_eq_true, Array.isEmpty_iff] at hd
    obtain ⟨rfl, rfl⟩ := hd
    exact .func hs ht (fun i x y hx => by simp at hx) (fun i x y hx => by simp at hx)
   | succ d =>
    simp only [Zby, Bool.and_eq_true] at hd
    obtain ⟨q1, q2⟩ := Zjl (f := ZbJ ρ d) hs fun i x y hx hy => Zik hι hm d x y (h1 i x y hx hy) (Zc5 hd.1 i x hx)
    obtain ⟨q3, q4⟩ := Zjl (f := ZbJ ρ d) ht fun i x y hx hy => Zik hι hm d x y (h2 i x y hx hy) (Zc5 hd.2 i x hx)
    exact .func q1 q3 q2 q4
  | agg hs h1 =>
   cases d with
   | zero => simp [Zby] at hd
   | succ d =>
    simp only [Zby] at hd
    obtain ⟨q1, q2⟩ := Zjl (f := ZbJ ρ d) hs fun i x y hx hy => Zik hι hm d x y (h1 i x y hx hy) (Zc5 hd i x hx)
    exact .agg q1 q2
  | tuple hs h1 =>
   cases d with
   | zero => simp [Zby] at hd
   | succ d =>
    simp only [Zby] at hd
    obtain ⟨q1, q2⟩ := Zjl (f := ZbJ ρ d) hs fun i x y hx hy => Zik hι hm d x y (h1 i x y hx hy) (Zc5 hd i x hx)
    exact .tuple q1 q2
theorem ZsM {ι ι2 : Ren} {ρ : Nat → Nat} (hι : ∀ k b, ι k = some b → ι2 (ρ k) = some b) (hm : ∀ b base id, ρ (Zbp b base id) = Zbp b base id) {v v' : Value} (h : VR ι v v') : ∃ u, VR ι2 u v' := by
 have arr : ∀ {a a' : Array Value}, a.size = a'.size → (∀ (i : Nat) x y, a[i]? = some x → a'[i]? = some y → ∃ u, VR ι2 u y) → ∃ c : Array Value, c.size = a'.size ∧ ∀ (i : Nat) x y, c[i]? = some x → a'[i]? = some y → VR ι2 x y := fun {a a'} hs hx => by
  have each : ∀ i : Fin a'.size, ∃ u, VR ι2 u a'[i] := fun i => hx i a[i] a'[i] (Array.getElem?_eq_getElem (by omega)) (Array.getElem?_eq_getElem i.2)
  refine ⟨Array.ofFn fun i => (each i).choose, by simp, fun i x y h1 h2 => ?_⟩
  obtain ⟨hlt, rfl⟩ := Array.getElem?_eq_some_iff.1 h2
  rw [Array.getElem?_ofFn, dif_pos hlt] at h1
  injection h1 with h1
  subst h1
  exact (each ⟨i, hlt⟩).choose_spec
 induction h with
 | atom h => exact ⟨_, .atom h⟩
 | glob h => exact ⟨_, .glob (g := 0) h⟩
 | ptr h => exact ⟨_, .ptr (hι _ _ h)⟩
 | map h => exact ⟨_, .map (hι _ _ h)⟩
 | slice h hn hc hq => exact ⟨_, .slice (hι _ _ h) hn hc hq⟩
 | slice0 h => exact ⟨_, .slice0 (A := ⟨0, 0, none⟩) h⟩
 | mptr h =>
  have h' := hι _ _ h
  rw [hm] at h'
  exact ⟨_, .mptr (z := 0) h'⟩
 | mslice h hn hc =>
  have h' := hι _ _ h
  rw [hm] at h'
  exact ⟨_, .mslice (z := 0) h' hn hc⟩
 | func hs ht h1 h2 ih1 ih2 =>
  obtain ⟨c, q1, q2⟩ := arr hs ih1
  obtain ⟨d, q3, q4⟩ := arr ht ih2
  exact ⟨_, .func q1 q3 q2 q4⟩
 | agg hs h1 ih =>
  obtain ⟨c, q1, q2⟩ := arr hs ih
  exact ⟨_, .agg q1 q2⟩
 | tuple hs h1 ih =>
  obtain ⟨c, q1, q2⟩ := arr hs ih
  exact ⟨_, .tuple q1 q2⟩
noncomputable def ZpW : Nat → Nat → (Nat → Option Value) → (Nat → Value) → Tr Value → Tr Value
 | 0, _, _, _, T => T
 | n + 1, t, L, gv, T => ZpW n (t + 1) L gv (T.set t (some (match L t with | some v => v | none => gv t)))
noncomputable def tmps (nt : Nat) (L : Nat → Option Value) (gv : Nat → Value) : Tr Value := ZpW nt 0 L gv .nil
theorem Zpz (L : Nat → Option Value) (gv : Nat → Value) : ∀ (n t : Nat) (T : Tr Value) (k : Nat), (ZpW n t L gv T).get k = if t ≤ k ∧ k < t + n then some (match L k with | some v => v | none => gv k) else T.get k
 | 0, t, T, k => by rw [if_neg (by omega)]; rfl
 | n + 1, t, T, k => by
  show (ZpW n (t + 1) L gv _).get k = _
  rw [Zpz L gv n (t + 1), Tr.get_set]
  by_cases hk : k = t
  ·subst hk
   rw [if_neg (by omega), ZK, if_pos (by omega)]
  ·rw [Zv hk]
   by_cases h : t + 1 ≤ k ∧ k < t + 1 + n
   ·rw [if_pos h, if_pos (by omega)]
   ·rw [if_neg h, if_neg (by omega)]
theorem ZqB (nt : Nat) (L : Nat → Option Value) (gv : Nat → Value) (k : Nat) : (tmps nt L gv).get k = if k < nt then some (match L k with | some v => v | none => gv k) else none := by
 unfold tmps
 rw [Zpz]
 by_cases h : k < nt
 ·rw [if_pos (by omega), if_pos h]
 ·rw [if_neg (by omega), if_neg h]; rfl
def At (P : Program) (nt : Nat) (T : Tr Value) (h : AH) (m M : Nat) (ι0 : Ren) (h0 : AH) (w0 : World) (a : Act) (w : World) : Prop :=
 ∃ ι, TR ι nt [] T a ∧ Step P ι0 h0 w0 ι h w ∧ ∀ k, m ≤ k → k < M → ι k = none
def ZhP (k : Nat) : Prop := 1000000000 ≤ k ∧ k % 2 = 0
theorem Zsd (b base id : Nat) : ZhP (Zbp b base id) := Zif b base id
def rho (live : List Nat) (M : Nat) (k : Nat) : Nat := if M ≤ k ∧ k % 2 = 0 then k else if k ∈ live then live.idxOf k else if k < M then M + 2 * k + 1 else k + 2 * M
def sig (live : List Nat) (M : Nat) (j : Nat) : Option Nat :=
 if j < live.length then live[j]?
 else if M ≤ j then
  (if j % 2 = 0 then some j else if j < 3 * M then (if (j - M - 1) / 2 ∉ live then some ((j - M - 1) / 2) else none) else if j - 2 * M ∉ live then some (j - 2 * M) else none)
 else none
theorem Zve {live : List Nat} {M : Nat} (hM : live.length ≤ M) (h2 : M % 2 = 0) (hl : ∀ k ∈ live, k < M) (k : Nat) : sig live M (rho live M k) = some k := by
 unfold rho
 split
 ·rename_i h
  unfold sig
  rw [if_neg (by omega), if_pos h.1, if_pos h.2]
 ·rename_i h
  split
  ·rename_i hk
   have hlt := List.idxOf_lt_length_of_mem hk
   unfold sig
   rw [if_pos hlt, List.getElem?_eq_getElem hlt]
   simp
  ·rename_i hk
   split
   ·rename_i hkM
    unfold sig
    have e : (M + 2 * k + 1 - M - 1) / 2 = k := by omega
    rw [if_neg (by omega), if_pos (by omega), if_neg (by omega), if_pos (by omega), e, if_pos hk]
   ·rename_i hkM
    unfold sig
    have e : k + 2 * M - 2 * M = k := by omega
    rw [if_neg (by omega), if_pos (by omega), if_neg (by omega), if_neg (by omega), e, if_pos hk]
theorem Zna {live : List Nat} {M : Nat} (hn : live.Nodup) (h2 : M % 2 = 0) (hl : ∀ k ∈ live, k < M) {j k : Nat} (h : sig live M j = some k) : rho live M k = j := by
 unfold sig at h
 split at h
 ·rename_i hlt
  rw [List.getElem?_eq_getElem hlt] at h
  injection h with h
  subst h
  have hm : live[j] ∈ live := List.getElem_mem hlt
  have := hl _ hm
  unfold rho
  rw [if_neg (by omega), if_pos hm]
  exact hn.idxOf_getElem j hlt
 ·split at h
  ·split at h
   ·injection h with h
    subst h
    unfold rho
    rw [if_pos ⟨by assumption, by assumption⟩]
   ·split at h
    ·split at h
     ·rename_i hc
      injection h with h
      subst h
      unfold rho
      rw [if_neg (by omega), if_neg hc, if_pos (by omega)]
      omega
     ·cases h
    ·split at h
     ·rename_i hc
      injection h with h
      subst h
      unfold rho
      rw [if_neg (by omega), if_neg hc, if_neg (by omega)]
      omega
     ·cases h
  ·cases h
theorem FzC.ren {ι ι2 : Ren} {ρ : Nat → Nat} (hι : ∀ k b, ι k = some b → ι2 (ρ k) = some b) (hm : ∀ b base id, ρ (Zbp b base id) = Zbp b base id) {w : World} {b base id : Nat} (h : FzC ι w b base id) : FzC ι2 w b base id := by
 obtain ⟨c, C, t, fr, h1, h2, h3, h4⟩ := h
 refine ⟨c, C, t, fr, h1, h2, h3, fun i x y hx hy => ?_⟩
 have hv := h4 i x y hx hy
 unfold ZaA at hx
 rw [List.getElem?_map] at hx
 cases hb : c[i]? with
 | none => rw [hb] at hx; cases hx
 | some z =>
  rw [hb] at hx
  injection hx with hx
  subst hx
  have := Zik hι hm 0 _ _ hv (by cases z <;> rfl)
  have e : ZbJ ρ 0 (ZeQ z) = ZeQ z := by cases z <;> rfl
  rwa [e] at this
theorem Zul {nt : Nat} {ι0 ι : Ren} {h0 h : AH} {w0 w : World} {T : Tr Value} {a : Act} (hT : TR ι nt [] T a) (hS : Step P ι0 h0 w0 ι h w)
  (live : List Nat) (m M : Nat) (hM : M = 1000000000) (hll : ∀ k ∈ live, k < M) (hlen : live.length = m) (hmM : m ≤ M) (hn : live.Nodup) (h3 : ∀ k, ι0 k ≠ none → live[k]? = some k ∨ ZhP k)
  (L : Nat → Option Value) (hL : ∀ t v, t < nt → L t = some v → v = ZbJ (rho live M) 3 ((T.get t).getD undef) ∧ Zby 3 ((T.get t).getD undef) = true)
  (g : AH) (hg : ∀ j o, g j = some o → ∃ k, live[j]? = some k ∧ match o with
   | .ro O m => h k = some (.ro O m)
   | .cells c t => ∃ c' r, h k = some (.cells c' t) ∧ c'.map (ZbJ (rho live M) 1) = c ++ r ∧ ZU (Zby 1) c' = true) :
  ∃ gv ι', TR ι' nt [] (tmps nt L gv) a ∧ Step P ι0 h0 w0 ι' g w ∧ (∀ k, m ≤ k → k < M → ι' k = none) ∧ ∀ j b, ι' j = some b → ∃ k, ι k = some b := by
 have h2M : M % 2 = 0 := by omega
 have s1 := fun k => Zve (live := live) (M := M) (by omega) h2M hll k
 have rm : ∀ b base id, rho live M (Zbp b base id) = Zbp b base id := fun b base id => by
  have := Zif b base id
  unfold rho
  rw [if_pos ⟨by omega, this.2⟩]
 have hι : ∀ k b, ι k = some b → (fun j => (sig live M j).bind ι) (rho live M k) = some b := fun k b hk => by
  simp only [s1 k, Option.bind_some, hk]
 have hlive : ∀ j k, live[j]? = some k → sig live M j = some k := fun j k hk => by
  have hlt := (List.getElem?_eq_some_iff.1 hk).1
  unfold sig
  rw [if_pos hlt]
  exact hk
 have back : ∀ j b, (sig live M j).bind ι = some b → ∃ k, sig live M j = some k ∧ ι k = some b := fun j b hj => by
  cases hs : sig live M j with
  | none => rw [hs] at hj; cases hj
  | some k => rw [hs] at hj; exact ⟨k, rfl, hj⟩
 have sm : ∀ k, ZhP k → sig live M k = some k := fun k hk => by
  unfold ZhP at hk
  unfold sig
  rw [if_neg (by omega), if_pos (by omega), if_pos hk.2]
 have old : ∀ k, ι0 k ≠ none → sig live M k = some k := fun k hk => (h3 k hk).elim (hlive k k) (sm k)
 have gC : ∀ j, isC (g j) = true → ∃ k, sig live M j = some k ∧ isC (h k) = true := fun j hj => by
  cases hx : g j with
  | none => rw [hx] at hj; cases hj
  | some o =>
   obtain ⟨k, hk, ho⟩ := hg j o hx
   cases o with
   | ro O m1 => rw [hx] at hj; exact ⟨k, hlive j k hk, by rw [show h k = some (.ro O m1) from ho]; exact hj⟩
   | cells c t => obtain ⟨c', r, hc, _⟩ := ho; exact ⟨k, hlive j k hk, by rw [hc]; rfl⟩
 have gS : ∀ j, (g j).isSome → ∃ k, sig live M j = some k ∧ (h k).isSome := fun j hj => by
  cases hx : g j with
  | none => rw [hx] at hj; cases hj
  | some o =>
   obtain ⟨k, hk, ho⟩ := hg j o hx
   cases o with
   | ro O m1 => exact ⟨k, hlive j k hk, by rw [show h k = some (.ro O m1) from ho]; rfl⟩
   | cells c t => obtain ⟨c', r, hc, _⟩ := ho; exact ⟨k, hlive j k hk, by rw [hc]; rfl⟩
 have garb : ∀ t, ∃ u, VR (fun j => (sig live M j).bind ι) u (a.tmps.getD t undef) := fun t => ZsM hι rm (hT.2.2 t)
 refine ⟨fun t => (garb t).choose, fun j => (sig live M j).bind ι, ⟨hT.1, hT.2.1, fun t => ?_⟩, ⟨fun k b hk => ?_, ⟨fun j c t hj => ?_, fun j O hj => ?_, fun j j' b b' h1 h2 h4 h5 h6 => ?_, fun j b hj => ?_, fun b base id q hq => ?_⟩, hS.os, hS.tape, hS.output, hS.size, hS.frame, fun j b h1 h2 => ?_, fun j h1 h2 => ?_, fun j h1 h2 => ?_⟩, fun j h1 h2 => ?_, fun j b hj => (back j b hj).imp fun k h => h.2⟩
 ·rw [ZqB]
  by_cases ht : t < nt
  ·rw [if_pos ht]
   cases hl : L t with
   | none => exact (garb t).choose_spec
   | some v =>
    obtain ⟨e, hd⟩ := hL t v ht hl
    subst e
    exact Zik hι rm 3 _ _ (hT.2.2 t) hd
  ·rw [if_neg ht]
   have : a.tmps.getD t undef = undef := by
    have := hT.1
    simp [Array.getD, show ¬ t < a.tmps.size by omega]
   rw [this]
   exact VR.undef'
 ·show (sig live M k).bind ι = some b
  rw [old k (by rw [hk]; simp)]
  exact hS.ext k b hk
 ·obtain ⟨k, hk, c', r, hc, hcr, hd⟩ := hg j _ hj
  obtain ⟨b, C, hb, hB, hC, hQ⟩ := hS.emb.obj k c' t hc
  have hle : c.length ≤ c'.length := by
   have := congrArg List.length hcr
   simp at this
   omega
  refine ⟨b, C, by show (sig live M j).bind ι = some b; rw [hlive j k hk]; exact hb, hB, ⟨Nat.le_trans hle hC.1, fun i x y hx hy => ?_⟩, hQ⟩
  have hx' : (c'.map (ZbJ (rho live M) 1))[i]? = some x := by
   rw [hcr, List.getElem?_append_left (List.getElem?_eq_some_iff.1 hx).1]
   exact hx
  rw [List.getElem?_map] at hx'
  cases hz : c'[i]? with
  | none => rw [hz] at hx'; cases hx'
  | some z =>
   rw [hz] at hx'
   injection hx' with hx'
   subst hx'
   exact Zik hι rm 1 z y (hC.2 i z y hz hy) (Zbl hd z (List.mem_of_getElem? hz))
 ·obtain ⟨k, hk, hr⟩ := hg j _ hj
  obtain ⟨b, hb, hB⟩ := hS.emb.ro k O hr
  exact ⟨b, by show (sig live M j).bind ι = some b; rw [hlive j k hk]; exact hb, hB⟩
 ·obtain ⟨k, q1, q2⟩ := gC j h1
  obtain ⟨k', q3, q4⟩ := gS j' h2
  obtain ⟨_, e1, e2⟩ := back j b h4
  rw [q1] at e1; injection e1 with e1; subst e1
  obtain ⟨_, e3, e4⟩ := back j' b' h5
  rw [q3] at e3; injection e3 with e3; subst e3
  have := hS.emb.inj k k' b b' q2 q4 e2 e4 h6
  subst this
  rw [← Zna hn h2M hll q1, ← Zna hn h2M hll q3]
 ·obtain ⟨k, _, e2⟩ := back j b hj
  exact hS.emb.lt k b e2
 ·obtain ⟨k, e1, e2⟩ := back _ q hq
  rw [sm _ (Zsd b base id)] at e1; injection e1 with e1; subst e1
  obtain ⟨m1, m2, m3⟩ := hS.emb.mks b base id q e2
  refine ⟨m1, ⟨m2.1.ren hι rm, fun o c hc => by
   have := hι _ _ (m2.2 o c hc)
   rw [rm] at this
   exact this⟩, fun k d hk hd => ?_⟩
  obtain ⟨k', q1, q2⟩ := gC k hk
  obtain ⟨k2, e3, e4⟩ := back k d hd
  rw [q1] at e3; injection e3 with e3; subst e3
  exact m3 k' d q2 e4
 ·obtain ⟨k, e1, e2⟩ := back j b h2
  refine hS.new k b ?_ e2
  cases hk : ι0 k with
  | none => rfl
  | some c =>
   have := Zna hn h2M hll (old k (by rw [hk]; simp))
   have e3 := Zna hn h2M hll e1
   rw [this] at e3
   subst e3
   rw [h1] at hk; cases hk
 ·obtain ⟨k, e1, e2⟩ := gS j h1
  rw [old j h2] at e1; injection e1 with e1; subst e1
  exact hS.alive j e2 h2
 ·obtain ⟨k, e1, e2⟩ := gC j h1
  rw [old j h2] at e1; injection e1 with e1; subst e1
  exact hS.kind j e2 h2
 ·show (sig live M j).bind ι = none
  unfold sig
  rw [if_neg (by omega), if_neg (by omega)]
  rfl
theorem Zse {nt : Nat} {ι0 ι : Ren} {h0 h : AH} {w0 w : World} {T : Tr Value} {a : Act} (hT : TR ι nt [] T a) (hS : Step P ι0 h0 w0 ι h w)
  (live : List Nat) (m M : Nat) (hM : M = 1000000000) (hll : ∀ k ∈ live, k < M) (hlen : live.length = m) (hmM : m ≤ M) (hn : live.Nodup) (h3 : ∀ k, ι0 k ≠ none → live[k]? = some k ∨ ZhP k)
  (L : Nat → Option Value) (hL : ∀ t v, t < nt → L t = some v → v = ZbJ (rho live M) 3 ((T.get t).getD undef) ∧ Zby 3 ((T.get t).getD undef) = true)
  (g : AH) (hg : ∀ j o, g j = some o → ∃ k, live[j]? = some k ∧ match o with
   | .ro O m => h k = some (.ro O m)
   | .cells c t => ∃ c' r, h k = some (.cells c' t) ∧ c'.map (ZbJ (rho live M) 1) = c ++ r ∧ ZU (Zby 1) c' = true) :
  ∃ gv, At P nt (tmps nt L gv) g m M ι0 h0 w0 a w := by
 obtain ⟨gv, ι', a1, a2, a3, _⟩ := Zul hT hS live m M hM hll hlen hmM hn h3 L hL g hg
 exact ⟨gv, ι', a1, a2, a3⟩
theorem ZuM (F : Fit P ext) {fu nt : Nat} {c : Code} {T T' : Tr Value} {s s' : St} {e : Ex} (h : ZaR P ext nt fu c T s = some (e, T', s')) (ho : ∀ p ∈ s'.ob, p.1 = p.2) {ι : Ren} {D : List Deferred} {a : Act} {w : World} (hT : TR ι nt D T a) (he : Emb P ι s.h.get w) (hf : Fresh ι s.n s'.n) :
  c.wp P (Zfo P ι s w nt D e T' s') a w := (Zgd F fu).1 nt c T s e T' s' h ho ι D a w hT he hf
end
end Ev
end Go.Proofs.YtjdojnecmplmnaaGreat
/- Functions with loops: a run stands ahead of a loop, at a round's end, or at the function's end. -/
namespace Go.Proofs.YtjdojnecmplmnaaGreat
open Go.RowKit
namespace Ev
inductive ZaO where
 | seq (b : Code)
 | blk (id : Nat)
 | scp
 | rnd (i : Nat)
inductive Stop where
 | fin (v : Value) (s : St)
 | head (a : Code) (K : List ZaO) (T : Tr Value) (s : St)
 | next (i : Nat) (T : Tr Value) (s : St)
noncomputable section
def Stop.s : Stop → St
 | .fin _ s => s
 | .head _ _ _ s => s
 | .next _ _ s => s
def ZsN (P : Program) (fn : Func) (T : Tr Value) (s : St) : Option Value :=
 match Zcz P T s fn.results.toList with
 | some [v] => some v
 | some vs => some (.tuple vs.toArray)
 | none => none
def ZsO (s : St) : Option Value → Option Stop
 | some v => some (.fin v s)
 | none => none
def ZuN (P : Program) (fn : Func) (e : Ex) (T : Tr Value) (s : St) : Option Stop :=
 match e with
 | .exit _ => none
 | .normal => ZsO s (ZsN P fn T s)
 | .ret => ZsO s (ZsN P fn T s)
mutual
def Zhl (P : Program) (ext : FuncId → Option Ext) (fn : Func) (nt : Nat) : Nat → Code → List ZaO → Tr Value → St → Option Stop
 | 0, _, _, _, _ => none
 | fu + 1, c, K, T, s => match c with
  | .seq a b => Zhl P ext fn nt fu a (.seq b :: K) T s
  | .scope a => Zhl P ext fn nt fu a (.scp :: K) T s
  | .block id a => Zhl P ext fn nt fu a (.blk id :: K) T s
  | .cond x a b => match opnd T x with
   | .bool t => match t with
    | true => Zhl P ext fn nt fu a K T s
    | false => Zhl P ext fn nt fu b K T s
   | _ => none
  | .loop a => some (.head a K T s)
  | c => match ZaR P ext nt fu c T s with
   | some (e, T', s') => Zee P ext fn nt fu K e T' s'
   | none => none
termination_by structural fu _ _ _ _ => fu
def Zee (P : Program) (ext : FuncId → Option Ext) (fn : Func) (nt : Nat) : Nat → List ZaO → Ex → Tr Value → St → Option Stop
 | 0, _, _, _, _ => none
 | fu + 1, K, e, T, s => match K with
  | [] => ZuN P fn e T s
  | .seq b :: K => match e with
   | .normal => Zhl P ext fn nt fu b K T s
   | .exit i => Zee P ext fn nt fu K (.exit i) T s
   | .ret => Zee P ext fn nt fu K .ret T s
  | .blk id :: K => match e with
   | .exit i => bif Nat.beq i id then Zee P ext fn nt fu K .normal T s else Zee P ext fn nt fu K (.exit i) T s
   | .normal => Zee P ext fn nt fu K .normal T s
   | .ret => Zee P ext fn nt fu K .ret T s
  | .scp :: K => Zee P ext fn nt fu K e T s
  | .rnd i :: K => match e with
   | .normal => some (.next i T s)
   | .exit j => Zee P ext fn nt fu K (.exit j) T s
   | .ret => Zee P ext fn nt fu K .ret T s
termination_by structural fu _ _ _ _ => fu
end
end
section
variable {P : Program} {ext : FuncId → Option Ext}
theorem Zsf {s : St} {o : Option Value} {st : Stop} (h : ZsO s o = some st) : ∃ v, st = .fin v s ∧ o = some v := by
 cases o with
 | none => cases h
 | some v => injection h with h; exact ⟨v, h.symm, rfl⟩
theorem Zsg {fn : Func} {e : Ex} {T : Tr Value} {s : St} {st : Stop} (h : ZuN P fn e T s = some st) : ∃ v, st = .fin v s ∧ (match e with | .exit _ => False | _ => True) ∧ (match Zcz P T s fn.results.toList with | some [v] => some v | some vs => some (.tuple vs.toArray) | none => none) = some v := by
 cases e with
 | exit i => cases h
 | normal => obtain ⟨v, h1, h2⟩ := Zsf h; exact ⟨v, h1, trivial, h2⟩
 | ret => obtain ⟨v, h1, h2⟩ := Zsf h; exact ⟨v, h1, trivial, h2⟩
theorem up_to (F : Fit P ext) {fn : Func} {nt : Nat} : ∀ fu : Nat, (∀ c K T s st, Zhl P ext fn nt fu c K T s = some st → Up s st.s) ∧ (∀ K e T s st, Zee P ext fn nt fu K e T s = some st → Up s st.s) := by
 intro fu
 induction fu with
 | zero => exact ⟨fun _ _ _ _ _ h => by simp [Zhl] at h, fun _ _ _ _ _ h => by simp [Zee] at h⟩
 | succ fu ih =>
  obtain ⟨ihT, ihB⟩ := ih
  have other : ∀ c K T s st, (match ZaR P ext nt fu c T s with | some (e, T', s') => Zee P ext fn nt fu K e T' s' | none => none) = some st → Up s st.s := fun c K T s st h => by
   split at h
   ·exact ((Zd4 (P := P) (ext := ext) (fun f g hg => (F.hp f g hg).up) fu).1 _ _ _ _ _ _ _ (by assumption)).trans (ihB _ _ _ _ _ h)
   ·cases h
  refine ⟨fun c K T s st h => ?_, fun K e T s st h => ?_⟩
  ·cases c <;> simp only [Zhl] at h
   case seq a b => exact ihT _ _ _ _ _ h
   case scope a => exact ihT _ _ _ _ _ h
   case block id a => exact ihT _ _ _ _ _ h
   case cond x a b =>
    split at h
    ·split at h
     ·exact ihT _ _ _ _ _ h
     ·exact ihT _ _ _ _ _ h
    ·cases h
   case loop a => injection h with h; subst h; exact Up.refl _
   all_goals exact other _ _ _ _ _ h
  ·cases K with
   | nil => simp only [Zee] at h; obtain ⟨v, rfl, _⟩ := Zsg h; exact Up.refl _
   | cons k K =>
    cases k <;> simp only [Zee] at h
    ·cases e <;> simp only at h
     ·exact ihT _ _ _ _ _ h
     ·exact ihB _ _ _ _ _ h
     ·exact ihB _ _ _ _ _ h
    ·cases e <;> simp only at h
     ·exact ihB _ _ _ _ _ h
     ·rename_i id i
      cases hb : Nat.beq i id <;> rw [hb] at h <;> exact ihB _ _ _ _ _ h
     ·exact ihB _ _ _ _ _ h
    ·exact ihB _ _ _ _ _ h
    ·cases e <;> simp only at h
     ·injection h with h; subst h; exact Up.refl _
     ·exact ihB _ _ _ _ _ h
     ·exact ihB _ _ _ _ _ h
def post (P : Program) (fn : Func) (R : Ending → World → Prop) (Nx : Nat → Act → World → Prop) : List ZaO → Exit → Act → World → Prop
 | [] => bodyPost P fn R
 | .seq b :: K => Exit.then (b.wp P (post P fn R Nx K)) (post P fn R Nx K)
 | .blk id :: K => Exit.inBlock id (post P fn R Nx K)
 | .scp :: K => Exit.noGoto (post P fn R Nx K)
 | .rnd i :: K => Exit.then (Nx i) (post P fn R Nx K)
def ZpX (P : Program) (fn : Func) (R : Ending → World → Prop) (Nx : Nat → Act → World → Prop) (nt : Nat) (ι : Ren) (a : Act) (w : World) : Stop → Prop
 | .fin v _ => ∀ v', VR ι v v' → R (.returned v') w
 | .head b K T _ => TR ι nt [] T a → (Code.loop b).wp P (post P fn R Nx K) a w
 | .next i T _ => TR ι nt [] T a → Nx i a w
theorem Zum (F : Fit P ext) {fn : Func} {nt : Nat} {R : Ending → World → Prop} {Nx : Nat → Act → World → Prop} : ∀ fu : Nat,
  (∀ c K T s st, Zhl P ext fn nt fu c K T s = some st → (∀ p ∈ st.s.ob, p.1 = p.2) → ∀ ι a w, TR ι nt [] T a → Emb P ι s.h.get w → Fresh ι s.n st.s.n →
   (∀ ι' a' w', Step P ι s.h.get w ι' st.s.h.get w' → Dom ι ι' s.n st.s.n → ZpX P fn R Nx nt ι' a' w' st) → c.wp P (post P fn R Nx K) a w) ∧
  (∀ K e T s st, Zee P ext fn nt fu K e T s = some st → (∀ p ∈ st.s.ob, p.1 = p.2) → ∀ ι a w, TR ι nt [] T a → Emb P ι s.h.get w → Fresh ι s.n st.s.n →
   (∀ ι' a' w', Step P ι s.h.get w ι' st.s.h.get w' → Dom ι ι' s.n st.s.n → ZpX P fn R Nx nt ι' a' w' st) → post P fn R Nx K e.out a w) := by
 intro fu
 induction fu with
 | zero => exact ⟨fun _ _ _ _ _ h => by simp [Zhl] at h, fun _ _ _ _ _ h => by simp [Zee] at h⟩
 | succ fu ih =>
  obtain ⟨ihT, ihB⟩ := ih
  have other : ∀ c K T s st, (match ZaR P ext nt fu c T s with | some (e, T', s') => Zee P ext fn nt fu K e T' s' | none => none) = some st → (∀ p ∈ st.s.ob, p.1 = p.2) → ∀ ι a w, TR ι nt [] T a → Emb P ι s.h.get w → Fresh ι s.n st.s.n →
   (∀ ι' a' w', Step P ι s.h.get w ι' st.s.h.get w' → Dom ι ι' s.n st.s.n → ZpX P fn R Nx nt ι' a' w' st) → c.wp P (post P fn R Nx K) a w := fun c K T s st h ho ι a w hT he hf hQ => by
   split at h
   ·rename_i e T1 s1 h1
    have u1 := (Zd4 (P := P) (ext := ext) (fun f g hg => (F.hp f g hg).up) fu).1 _ _ _ _ _ _ _ h1
    have u2 := (up_to F (fn := fn) (nt := nt) fu).2 _ _ _ _ _ h
    refine wp_mono (ZuM F h1 (ZbA u2.ob ho) hT he (hf.mono (Nat.le_refl _) u2.n)) ?_
    rintro ex a1 w1 ⟨rfl, ι1, g1, g2, g3⟩
    exact ihB K e T1 s1 st h ho ι1 a1 w1 g3 g1.emb (hf.after g2 u1.n) fun ι' a' w' k1 k2 => hQ ι' a' w' (g1.trans k1) (g2.trans k2 u1.n u2.n)
   ·cases h
  refine ⟨fun c K T s st h ho ι a w hT he hf hQ => ?_, fun K e T s st h ho ι a w hT he hf hQ => ?_⟩
  ·have h0 := h
   cases c <;> simp only [Zhl] at h
   case seq x y => exact wp_seq (ihT x (.seq y :: K) T s st h ho ι a w hT he hf hQ)
   case scope x => exact wp_scope_straight (ihT x (.scp :: K) T s st h ho ι a w hT he hf hQ)
   case block id x => exact wp_block (ihT x (.blk id :: K) T s st h ho ι a w hT he hf hQ)
   case cond x y z =>
    split at h
    ·rename_i t ht
     have hx : a.eval x = .bool t := Zfn ((ht ▸ hT.opnd x : VR ι (.bool t) (Zdf a x)).bool_inv)
     split at h
     ·exact wp_cond_true hx (ihT y K T s st h ho ι a w hT he hf hQ)
     ·exact wp_cond_false hx (ihT z K T s st h ho ι a w hT he hf hQ)
    ·cases h
   case loop x =>
    injection h with h
    subst h
    exact hQ ι a w (Step.refl he) Dom.refl hT
   all_goals exact other _ K T s st h ho ι a w hT he hf hQ
  ·cases K with
   | nil =>
    simp only [Zee] at h
    obtain ⟨v, rfl, hne, hr⟩ := Zsg h
    obtain ⟨v', hrun, hv⟩ := ZdV hT he hr
    have := hQ ι a w (Step.refl he) Dom.refl v' hv
    cases e with
    | normal => exact ⟨hT.2.1, v', hrun, this⟩
    | ret => exact ⟨hT.2.1, v', hrun, this⟩
    | exit i => exact hne.elim
   | cons k K =>
    cases k with
    | seq b =>
     simp only [Zee] at h
     cases e with
     | normal => exact ihT b K T s st h ho ι a w hT he hf hQ
     | exit i => exact ihB K (.exit i) T s st h ho ι a w hT he hf hQ
     | ret => exact ihB K .ret T s st h ho ι a w hT he hf hQ
    | blk id =>
     simp only [Zee] at h
     cases e with
     | normal => exact ihB K .normal T s st h ho ι a w hT he hf hQ
     | ret => exact ihB K .ret T s st h ho ι a w hT he hf hQ
     | exit i =>
      simp only at h
      show if i = id then _ else _
      cases hb : Nat.beq i id with
      | true =>
       rw [hb] at h
       rw [if_pos (Nat.eq_of_beq_eq_true hb)]
       exact ihB K .normal T s st h ho ι a w hT he hf hQ
      | false =>
       rw [hb] at h
       rw [if_neg (fun e => by rw [ZhM e] at hb; cases hb)]
       exact ihB K (.exit i) T s st h ho ι a w hT he hf hQ
    | scp =>
     simp only [Zee] at h
     have := ihB K e T s st h ho ι a w hT he hf hQ
     cases e <;> exact this
    | rnd i =>
     simp only [Zee] at h
     cases e with
     | normal =>
      injection h with h
      subst h
      exact hQ ι a w (Step.refl he) Dom.refl hT
     | exit j => exact ihB K (.exit j) T s st h ho ι a w hT he hf hQ
     | ret => exact ihB K .ret T s st h ho ι a w hT he hf hQ
def Zun (nt m : Nat) (L : Nat → Option Value) (H : Tr AObj) (T : Tr Value) (s : St) (live : List Nat) : Prop :=
 live.length = m ∧ live.Nodup ∧
  (∀ t v, t < nt → L t = some v → v = ZbJ (rho live far) 3 ((T.get t).getD undef) ∧ Zby 3 ((T.get t).getD undef) = true) ∧
  ∀ j o, H.get j = some o → ∃ k, live[j]? = some k ∧ match o with
   | .ro O m => s.h.get k = some (.ro O m)
   | .cells c t => ∃ c' r, s.h.get k = some (.cells c' t) ∧ c'.map (ZbJ (rho live far) 1) = c ++ r ∧ ZU (Zby 1) c' = true
def Zfq (n : Nat) (live : List Nat) : Bool := (live.take n == List.range n) && ZU (fun k => Nat.blt k 1000000000) live
theorem Zov {n : Nat} {live : List Nat} (h : Zfq n live = true) {k : Nat} (hk : k < n) : live[k]? = some k := by
 unfold Zfq at h
 rw [Bool.and_eq_true] at h
 have h := beq_iff_eq.1 h.1
 have : (live.take n)[k]? = some k := by rw [h]; simp [hk]
 rwa [List.getElem?_take_of_lt hk] at this
theorem ZqC {n : Nat} {live : List Nat} (h : Zfq n live = true) : ∀ k ∈ live, k < far := fun k hk => by
 unfold Zfq at h
 rw [Bool.and_eq_true] at h
 have := Zbl h.2 k hk
 rw [Nat.blt_eq] at this
 exact this
theorem ZoN {nt m n0 : Nat} {L : Nat → Option Value} {H : Tr AObj} {T : Tr Value} {s : St} {live : List Nat} (hm : m ≤ far) (h : Zun nt m L H T s live) (hk : Zfq n0 live = true) {ι0 ι : Ren} (hd : ∀ k, ι0 k ≠ none → k < n0 ∨ ZhP k) {h0 : AH} {w0 w : World} {a : Act} (hT : TR ι nt [] T a) (hS : Step P ι0 h0 w0 ι s.h.get w) :
  ∃ gv, At P nt (tmps nt L gv) H.get m far ι0 h0 w0 a w :=
 Zse hT hS live m far rfl (ZqC hk) h.1 hm h.2.1 (fun k hk2 => (hd k hk2).imp (Zov hk) id) L h.2.2.1 H.get h.2.2.2
end
end Ev
end Go.Proofs.YtjdojnecmplmnaaGreat
