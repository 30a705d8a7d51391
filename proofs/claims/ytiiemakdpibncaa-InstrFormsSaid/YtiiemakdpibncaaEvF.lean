/- Each operation of the runner against the model's own: all of them together. -/
import Derived.Test.YtiiemakdpibncaaEvE
import Derived.Laws.BytesString
import Derived.Laws.StructEq
namespace Go.Proofs.Ytiiemakdpibncaa
open Go.RowKit
namespace Ev
section
variable {P : Program} {ι : Ren} {w : World} {ρ ρ' : Operand → Value} {s s' : St} {v : Value}

def kindB : Value → Bool
  | .pointer _ | .slice .. | .nilFunc | .func .. => true
  | _ => false
theorem kindB_VR {x x' : Value} (h : VR ι x x') (hk : kindB x = true) : kindB x' = true := by
  cases h <;> first | exact hk | rfl | (simp [kindB] at hk)
theorem nilEq_kind {d : Option TypeDesc} {x y : Value} {q : Bool} (h : nilEq d x y = some q) : kindB x = true ∧ kindB y = true := by
  unfold nilEq at h
  split at h <;> first | exact ⟨rfl, rfl⟩ | cases h
theorem guard_kind {op : BinOp} {t : TypeId} {x y : Operand} {a b : Value} (ha : kindB a = true) : (eqGuard op t x y a b).run P w = .ok () w := by
  unfold eqGuard
  cases a <;> first | (simp [kindB] at ha; done) | skip
  all_goals cases op <;> rfl
theorem binOp_eql {t : TypeId} {a b : Value} {q : Bool} (ha : kindB a = true) (hb : kindB b = true) (h : (Op.equal t a b).run P w = .ok q w) : (binOp .eql t a b).run P w = .ok (.bool q) w := by
  have : binOp .eql t a b = (do pure (.bool (← Op.equal t a b))) := by
    cases a <;> first | (simp [kindB] at ha; done) | skip
    all_goals cases b <;> first | (simp [kindB] at hb; done) | rfl
  rw [this]
  simp [h, Result.andThen, Sem.run]
theorem binOp_neq {t : TypeId} {a b : Value} {q : Bool} (ha : kindB a = true) (hb : kindB b = true) (h : (Op.equal t a b).run P w = .ok q w) : (binOp .neq t a b).run P w = .ok (.bool (!q)) w := by
  have : binOp .neq t a b = (do pure (.bool (!(← Op.equal t a b)))) := by
    cases a <;> first | (simp [kindB] at ha; done) | skip
    all_goals cases b <;> first | (simp [kindB] at hb; done) | rfl
  rw [this]
  simp [h, Result.andThen, Sem.run]
theorem eqCells_run {xs ys xs' ys' : Array Value} (hx : ∀ (i : Nat) k a, xs[i]? = some (.int k a) → xs'[i]? = some (.int k a)) (hy : ∀ (i : Nat) k a, ys[i]? = some (.int k a) → ys'[i]? = some (.int k a)) (hxb : ∀ (i : Nat) a, xs[i]? = some (.bool a) → xs'[i]? = some (.bool a)) (hyb : ∀ (i : Nat) a, ys[i]? = some (.bool a) → ys'[i]? = some (.bool a)) (d : Nat) :
    ∀ (fs : List Field) (r : Bool), eqCells P xs ys fs = some r → (Op.eqFields (d + 1) xs' ys' fs).run P w = .ok r w
  | [], r, h => by simp [eqCells] at h; subst h; rfl
  | f :: fs, r, h => by
    simp only [eqCells] at h
    obtain ⟨hn, h⟩ := (show ∀ {b : Bool} {x : Option Bool} {y : Bool}, (bif b then none else x) = some y → b = false ∧ x = some y from fun {b x y} h => by cases b <;> simp at h; exact ⟨rfl, h⟩) h
    have hname : f.name ≠ "_" := by simpa using hn
    have hpart : ∀ {cs : Array Value} {v : Value} {dd : TypeDesc}, P.underlying f.type = some dd → (match dd with | .struct _ | .array _ _ => true | _ => false) = false → cs[f.offset]? = some v → (part f.type cs f.offset).run P w = .ok v w := fun {cs v dd} hu hd hc => by
      have : (isAgg f.type).run P w = .ok false w := by
        simp only [isAgg, Sem.run_bind, run_underlying hu, Result.andThen]
        cases dd <;> first | rfl | (simp at hd)
      simp [part, this, hc, Result.andThen, Sem.run]
    split at h
    · rename_i kk k a k' b r' hu h1 h2 h3
      split at h
      · rename_i hk
        subst hk
        injection h with h
        subst h
        have ih := eqCells_run hx hy hxb hyb d fs r' h3
        have e1 := hpart hu rfl (hx _ _ _ h1)
        have e2 := hpart hu rfl (hy _ _ _ h2)
        have e3 := run_equalIn_int (P := P) w d f.type k kk a b hu
        simp only [Op.eqFields, hname, ne_eq, not_false_eq_true, if_true, Sem.run_bind, e1, e2, e3, Result.andThen_ok]
        cases hab : (a == b)
        · simp [Sem.run]
        · simpa using ih
      · cases h
    · rename_i a b r' hu h1 h2 h3
      injection h with h
      subst h
      have ih := eqCells_run hx hy hxb hyb d fs r' h3
      have e1 := hpart hu rfl (hxb _ _ h1)
      have e2 := hpart hu rfl (hyb _ _ h2)
      have e3 := run_equalIn_bool' (P := P) w d f.type a b hu
      simp only [Op.eqFields, hname, ne_eq, not_false_eq_true, if_true, Sem.run_bind, e1, e2, e3, Result.andThen_ok]
      cases hab : (a == b)
      · simp [Sem.run]
      · simpa using ih
    · cases h
theorem aggEq_run {t : TypeId} {x y x' y' : Value} {q : Bool} (hx : VR ι x x') (hy : VR ι y y') (h : aggEq P t x y = some q) : ∃ xs ys, x' = .agg xs ∧ y' = .agg ys ∧ P.eqGuardType P.depth t = false ∧ (Op.equal t x' y').run P w = .ok q w := by
  unfold aggEq at h
  split at h
  · rename_i fs xs ys hu
    obtain ⟨hg, h⟩ := (show ∀ {b : Bool} {x : Option Bool} {y : Bool}, (bif b then none else x) = some y → b = false ∧ x = some y from fun {b x y} h => by cases b <;> simp at h; exact ⟨rfl, h⟩) h
    simp only [Bool.or_eq_false_iff] at hg
    obtain ⟨xs', rfl, s1, p1⟩ := hx.agg_inv
    obtain ⟨ys', rfl, s2, p2⟩ := hy.agg_inv
    have gen : ∀ {zs zs' : Array Value} (_ : zs.size = zs'.size) (_ : ∀ (i : Nat) x y, zs[i]? = some x → zs'[i]? = some y → VR ι x y) (i : Nat) (v : Value), atom v = true → zs[i]? = some v → zs'[i]? = some v := fun {zs zs'} hs hp i v hv hz => by
      have hlt : i < zs'.size := by rw [← hs]; exact (Array.getElem?_eq_some_iff.1 hz).1
      have := (hp i v _ hz (Array.getElem?_eq_getElem hlt)).eq_of_atom hv
      rw [Array.getElem?_eq_getElem hlt, this]
    have hfo : P.fieldsOf t = fs := by unfold Program.fieldsOf; rw [hu]
    refine ⟨xs', ys', rfl, rfl, hg.2, ?_⟩
    have e := run_equalIn_struct (P := P) w 9999 t xs' ys' (by rw [hfo]; exact hu) hg.1
    rw [hfo] at e
    exact e.trans (eqCells_run (fun i k a => gen s1 p1 i _ rfl) (fun i k a => gen s2 p2 i _ rfl) (fun i a => gen s1 p1 i _ rfl) (fun i a => gen s2 p2 i _ rfl) 9998 fs.toList q h)
  · cases h
theorem agg_eql {t : TypeId} {xs ys : Array Value} {q : Bool} (h : (Op.equal t (.agg xs) (.agg ys)).run P w = .ok q w) : (binOp .eql t (.agg xs) (.agg ys)).run P w = .ok (.bool q) w ∧ (binOp .neq t (.agg xs) (.agg ys)).run P w = .ok (.bool (!q)) w := by
  constructor
  · show (do pure (.bool (← Op.equal t (.agg xs) (.agg ys))) : Sem Value).run P w = _
    simp [h, Result.andThen, Sem.run]
  · show (do pure (.bool (!(← Op.equal t (.agg xs) (.agg ys)))) : Sem Value).run P w = _
    simp [h, Result.andThen, Sem.run]
theorem guard_agg {op : BinOp} {t : TypeId} {x y : Operand} {xs ys : Array Value} (h : P.eqGuardType P.depth t = false) : (eqGuard op t x y (.agg xs) (.agg ys)).run P w = .ok () w := by
  unfold eqGuard
  cases op <;> first | rfl | (simp [program, Sem.run, h, Result.andThen])
theorem bin_sound {o : Oper} {op : BinOp} {t : TypeId} {x y : Operand} {yt : TypeId} (ho : o.op = .binOp op t x y yt) (hρ : ∀ x, VR ι (ρ x) (ρ' x)) (he : Emb P ι s.h.get w) (h : evBin P ρ o op t x y s = some (v, s')) :
    s' = s ∧ Res P ((execOp ρ' o).run P w) s ι w v s' := by
  have hs : ∀ cs b, o.op ≠ .select cs b := fun cs b e => by rw [ho] at e; cases e
  unfold evBin at h
  split at h
  · rename_i q hq
    injection h with h
    injection h with h1 h2
    subst h1 h2
    obtain ⟨xs, ys, hx', hy', hg, hr⟩ := aggEq_run (w := w) (hρ x) (hρ y) hq
    have g := guard_agg (P := P) (w := w) (op := .eql) (t := t) (x := x) (y := y) (xs := xs) (ys := ys) hg
    rw [hx', hy'] at hr
    exact ⟨rfl, Res.same he (v' := .bool q) (by simp [execOp, ho, hx', hy', g, (agg_eql hr).1, Result.andThen, Sem.run]) (.atom rfl)⟩
  · rename_i q hq
    injection h with h
    injection h with h1 h2
    subst h1 h2
    obtain ⟨xs, ys, hx', hy', hg, hr⟩ := aggEq_run (w := w) (hρ x) (hρ y) hq
    have g := guard_agg (P := P) (w := w) (op := .neq) (t := t) (x := x) (y := y) (xs := xs) (ys := ys) hg
    rw [hx', hy'] at hr
    exact ⟨rfl, Res.same he (v' := .bool (!q)) (by simp [execOp, ho, hx', hy', g, (agg_eql hr).2, Result.andThen, Sem.run]) (.atom rfl)⟩
  split at h
  · rename_i r hr
    injection h with h
    subst h
    exact general_sound hs hρ he hr
  · split at h
    · rename_i q hq _ _
      injection h with h
      injection h with h1 h2
      subst h1 h2
      obtain ⟨k1, k2⟩ := nilEq_kind hq
      have e1 := binOp_eql (w := w) (kindB_VR (hρ x) k1) (kindB_VR (hρ y) k2) (nilEq_sound (hρ x) (hρ y) hq)
      have g := guard_kind (P := P) (w := w) (op := .eql) (t := t) (x := x) (y := y) (b := ρ' y) (kindB_VR (hρ x) k1)
      exact ⟨rfl, Res.same he (v' := .bool q) (by simp [execOp, ho, g, e1, Result.andThen, Sem.run]) (.atom rfl)⟩
    · rename_i q hq _ _
      injection h with h
      injection h with h1 h2
      subst h1 h2
      obtain ⟨k1, k2⟩ := nilEq_kind hq
      have e1 := binOp_neq (w := w) (kindB_VR (hρ x) k1) (kindB_VR (hρ y) k2) (nilEq_sound (hρ x) (hρ y) hq)
      have g := guard_kind (P := P) (w := w) (op := .neq) (t := t) (x := x) (y := y) (b := ρ' y) (kindB_VR (hρ x) k1)
      exact ⟨rfl, Res.same he (v' := .bool (!q)) (by simp [execOp, ho, g, e1, Result.andThen, Sem.run]) (.atom rfl)⟩
    · cases h
theorem map_VRs (hρ : ∀ x, VR ι (ρ x) (ρ' x)) (a : Array Operand) : VRs ι (a.map ρ) (a.map ρ') := by
  refine ⟨by simp, fun i x y hx hy => ?_⟩
  simp only [Array.getElem?_map] at hx hy
  cases hi : a[i]? with
  | none => rw [hi] at hx; cases hx
  | some z => rw [hi] at hx hy; injection hx with hx; injection hy with hy; subst hx hy; exact hρ z
theorem builtin_sound {o : Oper} {c : Call} {b : Builtin} (ho : o.op = .call c) (hc : c.callee = .builtin b) (hρ : ∀ x, VR ι (ρ x) (ρ' x)) (he : Emb P ι s.h.get w) (hf : Fresh ι s.n s'.n) (h : evBuiltin P ρ o c b s = some (v, s')) :
    Res P ((execOp ρ' o).run P w) s ι w v s' := by
  have hs : ∀ cs b, o.op ≠ .select cs b := fun cs b e => by rw [ho] at e; cases e
  obtain ⟨cs, hrun⟩ : ∃ cs, (execOp ρ' o).run P w = (builtin b c.argTypes o.type cs (c.args.map ρ')).run P w := ⟨_, by
    simp [execOp, ho, resolve, hc, invoke, Result.andThen, Sem.run]
    rfl⟩
  unfold evBuiltin at h
  split at h
  · split at h
    · rename_i t tx x y ht hx
      obtain ⟨v', w', ι', hr, h1, h2, h3⟩ := appendTo_sound (ty := o.type) (hρ x) (hρ y) he hf h
      refine ⟨.value v', w', ι', v', ?_, .inl rfl, h1, h2, h3⟩
      have e1 : c.argTypes = #[t, tx] := by rw [← Array.toArray_toList (xs := c.argTypes), ht]
      have e2 : c.args.map ρ' = #[ρ' x, ρ' y] := by rw [← Array.toArray_toList (xs := c.args), hx]; simp
      rw [hrun, e1, e2]
      simp [builtin, hr, Result.andThen, Sem.run]
    · cases h
  · split at h
    · rename_i t x ht hx
      split at h
      · rename_i e a n k hu hxx
        injection h with h
        injection h with h1 h2
        subst h1 h2
        have e1 : c.argTypes = #[t] := by rw [← Array.toArray_toList (xs := c.argTypes), ht]
        have e2 : c.args.map ρ' = #[ρ' x] := by rw [← Array.toArray_toList (xs := c.args), hx]; simp
        have hv := hxx ▸ hρ x
        have hl : ∃ a' c', ρ' x = .slice a' n c' := by
          generalize ρ' x = x' at hv
          cases hv with
          | atom h => simp [Ev.atom] at h
          | slice => exact ⟨_, _, rfl⟩
          | slice0 => exact ⟨_, _, rfl⟩
        obtain ⟨a', c', hl⟩ := hl
        refine Res.same he (v' := goInt n) ?_ (.atom rfl)
        rw [hrun, e1, e2, hl]
        simp [builtin, Builtin.len_, run_underlying hu, Result.andThen, Sem.run]
      · exact (general_sound hs hρ he h).2
    · cases h
  · exact (general_sound hs hρ he h).2
theorem nilCheck_sound {o : Oper} {x : Operand} (ho : o.op = .nilCheck x) (hρ : ∀ x, VR ι (ρ x) (ρ' x)) (he : Emb P ι s.h.get w) (h : (match ρ x with
    | .pointer (some a) => some ((.pointer (some a) : Value), s)
    | .func (.func f) a b => some (.func (.func f) a b, s)
    | _ => none) = some (v, s')) : s' = s ∧ Res P ((execOp ρ' o).run P w) s ι w v s' := by
  split at h
  · rename_i a hx
    injection h with h
    injection h with h1 h2
    subst h1 h2
    have hv := hx ▸ hρ x
    refine ⟨rfl, Res.same he (v' := ρ' x) ?_ hv⟩
    have : ∃ a', ρ' x = .pointer (some a') := by
      generalize ρ' x = x' at hv
      cases hv with
      | atom h => simp [Ev.atom] at h
      | ptr h => exact ⟨_, rfl⟩
    obtain ⟨a', hx'⟩ := this
    simp [execOp, ho, hx', Sem.run]
  · rename_i f a b hx
    injection h with h
    injection h with h1 h2
    subst h1 h2
    have hv := hx ▸ hρ x
    refine ⟨rfl, Res.same he (v' := ρ' x) ?_ hv⟩
    have : ∃ a' b', ρ' x = .func (.func f) a' b' := by
      generalize ρ' x = x' at hv
      cases hv with
      | atom h => exact ⟨_, _, rfl⟩
      | func => exact ⟨_, _, rfl⟩
    obtain ⟨a', b', hx'⟩ := this
    simp [execOp, ho, hx', Sem.run]
  · cases h
theorem bytesOf_spec : ∀ {l : List Value} {ns : List Int}, bytesOf l = some ns → l = ns.map (Value.int .u8)
  | [], ns, h => by simp [bytesOf] at h; subst h; rfl
  | x :: l, ns, h => by
    unfold bytesOf at h
    split at h
    · cases ‹_ :: _ = []›
    · rename_i n l' hx
      injection hx with h1 h2
      subst h1 h2
      split at h
      · rename_i r hr
        injection h with h
        subst h
        rw [bytesOf_spec hr]
        rfl
      · cases h
    · cases h
theorem convert_sound {o : Oper} {a b : TypeId} {x : Operand} (ho : o.op = .convert a b x) (hρ : ∀ x, VR ι (ρ x) (ρ' x)) (he : Emb P ι s.h.get w) (h : evConvert P ρ a b x s = some (v, s')) :
    s' = s ∧ Res P ((execOp ρ' o).run P w) s ι w v s' := by
  unfold evConvert at h
  split at h
  · rename_i e k o' n c hua hub hx
    split at h
    · rename_i l hue hl
      split at h
      · rename_i ns hns
        injection h with h
        injection h with h1 h2
        subst h1 h2
        have hbs := bytesOf_spec hns
        obtain ⟨bk, cs, hb, hcl, hll, hcs, hvv⟩ := row_load he hl
        have hcs' : cs = ns.map (Value.int .u8) := by
          rw [← hbs]
          apply List.ext_getElem (by omega)
          intro i h1 h2
          have hq := hvv i l[i] cs[i] (List.getElem?_eq_getElem h2) (List.getElem?_eq_getElem h1)
          have hli : l[i] = .int .u8 (ns[i]'(by rw [hbs] at h2; simpa using h2)) := by simp [hbs]
          rw [hli] at hq ⊢
          exact hq.int_inv
        have hv := hx ▸ hρ x
        have : ∃ a' c', ρ' x = .slice (some a') n c' ∧ (loadCells a' n).run P w = .ok (ns.map (Value.int .u8)).toArray w := by
          generalize ρ' x = x' at hv
          cases hv with
          | atom h => simp [Ev.atom] at h
          | slice hb2 hn hc hq =>
            rename_i b2 c'
            rw [hb] at hb2; injection hb2 with hb2; subst hb2
            refine ⟨_, _, rfl, ?_⟩
            have := run_loadCells_list (P := P) w ⟨bk.1, o', none⟩ cs hcs
            rw [hcl] at this
            rw [this, hcs']
          | slice0 =>
            rename_i a'
            have : ns = [] := List.eq_nil_of_length_eq_zero (by rw [hbs] at hll; simpa using hll)
            subst this
            exact ⟨a', 0, rfl, rfl⟩
        obtain ⟨a', c', hx', hrun⟩ := this
        refine ⟨rfl, Res.same he (v' := .string _) ?_ (.atom rfl)⟩
        simp [execOp, ho, hx', run_convert_bytes_string w a b e (some a') n c' hua hue hub, run_bytesToString w a' n c' ns hrun, Result.andThen, Sem.run]
      · cases h
    · cases h
  · cases h
theorem ev1_sound {o : Oper} (hρ : ∀ x, VR ι (ρ x) (ρ' x)) (he : Emb P ι s.h.get w) (hf : Fresh ι s.n s'.n) (h : ev1 P ρ o s = some (v, s')) :
    Res P ((execOp ρ' o).run P w) s ι w v s' := by
  obtain ⟨dst, op, type, pos, after, guard⟩ := o
  cases op
  case move x =>
    simp only [ev1, Option.some.injEq, Prod.mk.injEq] at h
    obtain ⟨rfl, rfl⟩ := h
    exact Res.same he (v' := ρ' x) (by simp [execOp, Sem.run]) (hρ x)
  case assign x =>
    simp only [ev1, Option.some.injEq, Prod.mk.injEq] at h
    obtain ⟨rfl, rfl⟩ := h
    exact Res.same he (v' := ρ' x) (by simp [execOp, Sem.run]) (hρ x)
  case pick c a b =>
    simp only [ev1] at h
    split at h
    · rename_i t ht
      have hc := (ht ▸ hρ c).bool_inv
      split at h
      · injection h with h
        injection h with h1 h2
        subst h1 h2
        exact Res.same he (v' := ρ' a) (by simp [execOp, hc, asBool, Result.andThen, Sem.run]) (hρ a)
      · injection h with h
        injection h with h1 h2
        subst h1 h2
        exact Res.same he (v' := ρ' b) (by simp [execOp, hc, asBool, Result.andThen, Sem.run]) (hρ b)
    · cases h
  case alloc t =>
    simp only [ev1] at h
    split at h
    · rename_i z hz
      injection h with h
      injection h with h1 h2
      subst h1 h2
      exact alloc_sound rfl he hz hf
    · cases h
  case box t x =>
    simp only [ev1, Option.some.injEq, Prod.mk.injEq] at h
    obtain ⟨rfl, rfl⟩ := h
    exact box_sound rfl (hρ x) he hf
  case build t ps =>
    simp only [ev1] at h
    obtain ⟨rfl, hr⟩ := build_sound (o := ⟨dst, .build t ps, type, pos, after, guard⟩) rfl hρ he h
    exact hr
  case buildSlice t n ps => exact buildSlice_sound (o := ⟨dst, .buildSlice t n ps, type, pos, after, guard⟩) rfl hρ he hf h
  case load t a =>
    simp only [ev1] at h
    split at h
    · rename_i k o ha
      split at h
      · rename_i u hu
        injection h with h
        injection h with h1 h2
        subst h1 h2
        exact load_sound (o := ⟨dst, .load t a, type, pos, after, guard⟩) rfl ha (hρ a) he hu
      · cases h
    · cases h
  case store t a x => exact store_sound (o := ⟨dst, .store t a x, type, pos, after, guard⟩) rfl hρ he h
  case nilCheck x =>
    simp only [ev1] at h
    obtain ⟨rfl, hr⟩ := nilCheck_sound (o := ⟨dst, .nilCheck x, type, pos, after, guard⟩) rfl hρ he h
    exact hr
  case fieldAddr t x f => obtain ⟨rfl, hr⟩ := fieldAddr_sound (o := ⟨dst, .fieldAddr t x f, type, pos, after, guard⟩) rfl hρ he h; exact hr
  case field t x f => obtain ⟨rfl, hr⟩ := field_sound (o := ⟨dst, .field t x f, type, pos, after, guard⟩) rfl hρ he h; exact hr
  case index t x ix =>
    simp only [ev1] at h
    split at h
    · rename_i r hr
      injection h with h
      subst h
      obtain ⟨e1, hq⟩ := index_sound (o := ⟨dst, .index t x ix, type, pos, after, guard⟩) rfl hρ he hr
      subst e1
      exact hq
    · obtain ⟨rfl, hr⟩ := general_sound (o := ⟨dst, .index t x ix, type, pos, after, guard⟩) (fun _ _ e => by cases e) hρ he h; exact hr
  case indexAddr t x ix => obtain ⟨rfl, hr⟩ := indexAddr_sound (o := ⟨dst, .indexAddr t x ix, type, pos, after, guard⟩) rfl hρ he h; exact hr
  case extract x i =>
    simp only [ev1] at h
    split at h
    · rename_i vs hx
      split at h
      · rename_i u hu
        injection h with h
        injection h with h1 h2
        subst h1 h2
        obtain ⟨vs', hx', hs, hc⟩ := (hx ▸ hρ x).tuple_inv
        have hlt : i < vs'.size := by rw [← hs]; exact (Array.getElem?_eq_some_iff.1 hu).1
        exact Res.same he (v' := vs'[i]) (by simp [execOp, Instr.extract, hx', Array.getElem?_eq_getElem hlt, Result.andThen, Sem.run]) (hc i _ _ hu (Array.getElem?_eq_getElem hlt))
      · cases h
    · cases h
  case slice t x lo hi mx =>
    simp only [ev1] at h
    split at h
    · split at h
      · rename_i r hr
        injection h with h
        subst h
        obtain ⟨e1, hq⟩ := slice_sound (o := ⟨dst, .slice t x lo hi none, type, pos, after, guard⟩) rfl hρ he hr
        subst e1
        exact hq
      · obtain ⟨rfl, hr⟩ := general_sound (o := ⟨dst, .slice t x lo hi none, type, pos, after, guard⟩) (fun _ _ e => by cases e) hρ he h; exact hr
    · cases h
  case binOp op t x y yt => obtain ⟨rfl, hr⟩ := bin_sound (o := ⟨dst, .binOp op t x y yt, type, pos, after, guard⟩) rfl hρ he h; exact hr
  case makeSlice t l c => exact makeSlice_sound (o := ⟨dst, .makeSlice t l c, type, pos, after, guard⟩) rfl hρ he hf h
  case makeFunc fn a b =>
    simp only [ev1, Option.some.injEq, Prod.mk.injEq] at h
    obtain ⟨rfl, rfl⟩ := h
    have h1 := map_VRs hρ a
    have h2 := map_VRs hρ b
    exact Res.same he (v' := .func fn (a.map ρ') (b.map ρ')) (by simp [execOp, Instr.makeFunc, Result.andThen, Sem.run]) (.func h1.1 h2.1 h1.2 h2.2)
  case unOp op t x => obtain ⟨rfl, hr⟩ := general_sound (o := ⟨dst, .unOp op t x, type, pos, after, guard⟩) (fun _ _ e => by cases e) hρ he h; exact hr
  case convert a b x =>
    simp only [ev1] at h
    split at h
    · rename_i r hr
      injection h with h
      subst h
      obtain ⟨e1, hq⟩ := convert_sound (o := ⟨dst, .convert a b x, type, pos, after, guard⟩) rfl hρ he hr
      subst e1
      exact hq
    · obtain ⟨rfl, hr⟩ := general_sound (o := ⟨dst, .convert a b x, type, pos, after, guard⟩) (fun _ _ e => by cases e) hρ he h; exact hr
  case call c =>
    simp only [ev1] at h
    split at h
    · rename_i b hc
      exact builtin_sound (o := ⟨dst, .call c, type, pos, after, guard⟩) rfl hc hρ he hf h
    · cases h
  all_goals (simp [ev1] at h)
theorem fixB_eq {o : Oper} {v v1 : Value} {s1 : St} (h : fixB o v s = (v1, s1)) (hob : ∀ p ∈ s1.ob, p.1 = p.2) : v1 = v ∧ s1.h = s.h ∧ s1.n = s.n := by
  unfold fixB at h
  split at h
  all_goals first
    | (generalize hq : s.tst _ = q at h; obtain ⟨b, s2⟩ := q; simp only [Prod.mk.injEq] at h; obtain ⟨rfl, rfl⟩ := h; obtain ⟨rfl, e1, e2⟩ := tst_eq hq hob; exact ⟨rfl, e1, e2⟩)
    | (simp only [Prod.mk.injEq] at h; obtain ⟨rfl, rfl⟩ := h; exact ⟨rfl, rfl, rfl⟩)
end
end Ev
end Go.Proofs.Ytiiemakdpibncaa
