/- Maps whose keys are numbers: each operation of the runner against the model's own. -/
import Derived.Test.YtbhnaaingkbeiaaEvW
import Derived.MapKept
namespace Go.Proofs.Ytbhnaaingkbeiaa
open Go.RowKit
namespace Ev
section
variable {P : Program} {ι : Ren} {w : World} {ρ ρ' : Operand → Value} {s s' : St} {v : Value}
theorem kvs_get {es es' : List MapEntry} (h : kvs es = kvs es') (i : Nat) : (es[i]?).map (fun e => (e.key, e.val)) = (es'[i]?).map (fun e => (e.key, e.val)) := by
  have := congrArg (fun l => l[i]?) h
  simpa [kvs] using this
theorem findNow_kv {d : TypeDesc} {k : Value} : ∀ {es es' : List MapEntry} (i : Nat), kvs es = kvs es' → Instr.findNow d k es i = Instr.findNow d k es' i
  | [], [], _, _ => rfl
  | [], _ :: _, _, h => by simp [kvs] at h
  | _ :: _, [], _, h => by simp [kvs] at h
  | e :: es, e' :: es', i, h => by
    simp only [kvs, List.map_cons, List.cons.injEq, Prod.mk.injEq] at h
    simp only [Instr.findNow]
    rw [h.1.1, h.1.2, findNow_kv (i + 1) h.2]
theorem kvs_modify {es es' : List MapEntry} (h : kvs es = kvs es') (i : Nat) (k x : Value) (f g : MapEntry → MapEntry) (hf : ∀ e, (f e).key = k ∧ (f e).val = x) (hg : ∀ e, (g e).key = k ∧ (g e).val = x) : kvs (es.modify i f) = kvs (es'.modify i g) := by
  apply List.ext_getElem?
  intro j
  simp only [kvs, List.getElem?_map, List.getElem?_modify]
  have hj := kvs_get h j
  cases h1 : es[j]? <;> cases h2 : es'[j]? <;> rw [h1, h2] at hj <;> simp at hj ⊢
  rename_i a b
  by_cases hij : i = j
  · simp [hij, (hf a).1, (hf a).2, (hg b).1, (hg b).2]
  · simp [hij, hj]
/-- The entry that is found has the key. -/
theorem found_key {q : IntKind} {k : Value} : ∀ (l : List MapEntry) (i : Nat) (r : Nat × Value), Instr.findNow (.int q) k l i = some (some r) → ∃ e, l[r.1 - i]? = some e ∧ e.key = k ∧ i ≤ r.1 ∧ ∃ j n, k = .int j n
  | [], i, r, h => by simp [Instr.findNow] at h
  | e :: l, i, r, h => by
    simp only [Instr.findNow] at h
    split at h
    · rename_i hs
      injection h with h; injection h with h; subst h
      unfold Instr.sameNow at hs
      split at hs
      · rename_i a b c d hk
        split at hs
        · injection hs with hs
          rename_i hab
          have := beq_iff_eq.1 hs
          subst this hab
          exact ⟨e, by simp, hk, Nat.le_refl _, _, _, rfl⟩
        · cases hs
      · exact absurd ‹TypeDesc.int q = TypeDesc.string› (by simp)
      · exact absurd ‹TypeDesc.int q = TypeDesc.bool› (by simp)
      · cases hs
    · obtain ⟨e', h1, h2, h3, h4⟩ := found_key l (i + 1) r h
      refine ⟨e', ?_, h2, by omega, h4⟩
      rw [show r.1 - i = (r.1 - (i + 1)) + 1 by omega]
      exact h1
    · cases h
theorem checkKey_int {kt : TypeId} {q : IntKind} (hk : P.underlying kt = some (.int q)) (k : Value) (e : Bool) (n : Nat) : (Instr.checkKey e (n + 1) kt k).run P w = .ok () w := by
  simp only [Instr.checkKey, Sem.run_bind, run_underlying hk, Result.andThen]
  cases k <;> rfl
theorem setObj_at {r : Nat} {o : Obj} {es : Array MapEntry} {c : Nat} (hB : w.heap[r]? = some (.map es c)) : (setObj r o).run P w = .ok () { w with heap := w.heap.setIfInBounds r o } ∧ ({ w with heap := w.heap.setIfInBounds r o } : World).heap[r]? = some o ∧ (∀ i, i ≠ r → ({ w with heap := w.heap.setIfInBounds r o } : World).heap[i]? = w.heap[i]?) ∧ ({ w with heap := w.heap.setIfInBounds r o } : World).heap.size = w.heap.size :=
  ⟨Go.MapKept.run_setObj_map o hB, (Go.MapKept.heap_set hB).1, (Go.MapKept.heap_set hB).2, by simp⟩
theorem VR.map_inv {k : Nat} {v' : Value} (h : VR ι (.map (some k)) v') : ∃ b, ι k = some b ∧ v' = .map (some b.1) := by
  cases h with
  | atom h => simp [Ev.atom] at h
  | map h => exact ⟨_, h, rfl⟩
theorem VR.map_none {v' : Value} (h : VR ι (.map none) v') : v' = .map none := h.eq_of_atom rfl
/-- The map that stands there. -/
theorem ents_spec (he : Emb P ι s.h.get w) {k : Nat} {es : List MapEntry} (h : entsAt s (.map (some k)) = some es) : ∃ (b : Nat × Nat) (es' : Array MapEntry) (c : Nat), ι k = some b ∧ w.heap[b.1]? = some (.map es' c) ∧ kvs es = kvs es'.toList ∧ ∃ O, s.h.get k = some (.ro O true) := by
  simp only [entsAt] at h
  split at h
  · rename_i a c hk
    injection h with h
    subst h
    obtain ⟨b, hb, es1, c1, es', c', e1, e2, e3⟩ := he.ro k _ hk
    injection e1 with e1
    subst e1
    exact ⟨b, es', c', hb, e2, e3, _, hk⟩
  · cases h
theorem zeroW_spec {t : TypeId} {z : Value} (h : zeroW P t = some z) : (zeroValue t).run P w = .ok z w ∧ free1 z = true := by
  unfold zeroW at h
  split at h
  · rename_i i hi
    split at h
    · rename_i u hu
      obtain ⟨h1, h2⟩ := bif_some h
      injection h2 with h2
      subst h2
      exact ⟨by simp [zeroValue, typeInfo, hi, hu, Result.andThen], h1⟩
    · cases h
  · cases h
theorem lookE_run {kt : TypeId} {q : IntKind} (hk : P.underlying kt = some (.int q)) {k : Value} {es es' : List MapEntry} {r : Option Value} (hes : kvs es = kvs es') (h : lookE q k es = some r) : ∃ a, (Instr.findKey kt k es').run P w = .ok a w ∧ a.map (·.2) = r := by
  unfold lookE at h
  rw [findNow_kv 0 hes] at h
  split at h
  · rename_i a ha
    injection h with h
    subst h
    exact ⟨some a, Go.MapKept.run_findKey hk ha, rfl⟩
  · rename_i ha
    injection h with h
    subst h
    exact ⟨none, Go.MapKept.run_findKey hk ha, rfl⟩
  · cases h
theorem free_of1 {z : Value} (h : free1 z = true) : free z = true := by
  cases z <;> first | exact h | (simp [free1, atom] at h)
theorem free_lookV {z : Value} {ok : Bool} {r : Option Value} (h1 : free1 z = true) (h2 : free1O r = true) : free (lookV z ok r) = true := by
  have h3 : free1 (r.getD z) = true := by cases r with | none => exact h1 | some u => exact h2
  cases ok with
  | false => exact free_of1 h3
  | true =>
    show (free1 (r.getD z) && (true && true)) = true
    rw [h3]
    rfl
theorem lookup_nil {t kt et : TypeId} {q : IntKind} {z k : Value} {ok : Bool} {r : Option Value} (hm : P.underlying t = some (.map kt et)) (hk : P.underlying kt = some (.int q)) (hz : (zeroValue et).run P w = .ok z w) (hr : lookE q k [] = some r) :
    (Instr.lookup t (.map none) k ok).run P w = .ok (lookV z ok r) w := by
  obtain ⟨a, ha, hr'⟩ := lookE_run (w := w) (es' := []) hk rfl hr
  simp only [Instr.lookup, Sem.run_bind, Sem.run, run_underlying hm, Result.andThen, checkKey_int hk, ha, Sem.run_pure]
  cases a with
  | none =>
    simp only [Option.map_none] at hr'
    subst hr'
    cases ok <;> simp [lookV, hz, Result.andThen, Sem.run]
  | some a =>
    simp only [Option.map_some] at hr'
    subst hr'
    cases ok <;> simp [lookV, Result.andThen, Sem.run]
theorem lookup_map {t kt et : TypeId} {q : IntKind} {z k : Value} {ok : Bool} {r : Option Value} {b : Nat} {es : List MapEntry} {es' : Array MapEntry} {c : Nat} (hm : P.underlying t = some (.map kt et)) (hk : P.underlying kt = some (.int q)) (hz : (zeroValue et).run P w = .ok z w) (hB : w.heap[b]? = some (.map es' c)) (hkv : kvs es = kvs es'.toList) (hr : lookE q k es = some r) :
    (Instr.lookup t (.map (some b)) k ok).run P w = .ok (lookV z ok r) w := by
  obtain ⟨a, ha, hr'⟩ := lookE_run (w := w) hk hkv hr
  simp only [Instr.lookup, Sem.run_bind, Sem.run, run_underlying hm, Result.andThen, Go.MapKept.run_getObj_map hB, checkKey_int hk, ha, Sem.run_pure]
  cases a with
  | none =>
    simp only [Option.map_none] at hr'
    subst hr'
    cases ok <;> simp [lookV, hz, Result.andThen, Sem.run]
  | some a =>
    simp only [Option.map_some] at hr'
    subst hr'
    cases ok <;> simp [lookV, Result.andThen, Sem.run]
theorem lookup_sound {o : Oper} {t : TypeId} {x ix : Operand} {ok : Bool} (ho : o.op = .lookup t x ix ok) (hρ : ∀ x, VR ι (ρ x) (ρ' x)) (he : Emb P ι s.h.get w) (h : evLookup P ρ t x ix ok s = some (v, s')) :
    s' = s ∧ Res P ((execOp ρ' o).run P w) s ι w v s' := by
  unfold evLookup at h
  split at h
  · rename_i kt et hm
    split at h
    · rename_i q z es hk hz hes
      obtain ⟨hat, h⟩ := bif_some h
      split at h
      · rename_i r hr
        obtain ⟨hfr, h⟩ := bif_some h
        injection h with h
        injection h with h1 h2
        subst h1 h2
        refine ⟨rfl, ?_⟩
        have hix : ρ' ix = ρ ix := (hρ ix).eq_of_atom hat
        obtain ⟨hz1, hz2⟩ := zeroW_spec (w := w) hz
        have hfin := free_lookV (ok := ok) hz2 hfr
        refine Res.same he (v' := lookV z ok r) ?_ (VR.of_free hfin)
        have key : (Instr.lookup t (ρ' x) (ρ' ix) ok).run P w = .ok (lookV z ok r) w := by
          rw [hix]
          cases hx : ρ x with
          | map m =>
            have hv := hx ▸ hρ x
            cases m with
            | none =>
              rw [hv.map_none]
              rw [hx] at hes
              injection hes with hes
              subst hes
              exact lookup_nil hm hk hz1 hr
            | some k =>
              obtain ⟨b, hb, hx'⟩ := hv.map_inv
              rw [hx] at hes
              obtain ⟨b2, es', c, hb2, hB, hkv, _⟩ := ents_spec he hes
              rw [hb] at hb2; injection hb2 with hb2; subst hb2
              rw [hx']
              exact lookup_map hm hk hz1 hB hkv hr
          | _ => rw [hx] at hes; simp [entsAt] at hes
        simp [execOp, ho, key, Result.andThen, Sem.run]
      · cases h
    · cases h
  · cases h
theorem update_sound {o : Oper} {t : TypeId} {m k x : Operand} (ho : o.op = .mapUpdate t m k x) (hρ : ∀ x, VR ι (ρ x) (ρ' x)) (he : Emb P ι s.h.get w) (h : evUpdate P ρ t m k x s = some (v, s')) :
    Res P ((execOp ρ' o).run P w) s ι w v s' := by
  unfold evUpdate at h
  split at h
  · rename_i kt et b0 hm hmm
    split at h
    · rename_i q es hk hes
      obtain ⟨hat, h⟩ := bif_some h
      simp only [Bool.and_eq_true] at hat
      split at h
      · rename_i l hl
        injection h with h
        injection h with h1 h2
        subst h1 h2
        have hk' : ρ' k = ρ k := (hρ k).eq_of_atom hat.1
        have hx' : ρ' x = ρ x := (hρ x).eq_of_free1 hat.2
        obtain ⟨b, hb, hm'⟩ := (hmm ▸ hρ m).map_inv
        obtain ⟨b2, es', c, hb2, hB, hkv, O, hO⟩ := ents_spec he hes
        rw [hb] at hb2; injection hb2 with hb2; subst hb2
        have main : ∃ (es2 : Array MapEntry) (c2 : Nat), (Instr.mapUpdate t (ρ' m) (ρ' k) (ρ' x)).run P w = .ok () { w with heap := w.heap.setIfInBounds b.1 (.map es2 c2) } ∧ kvs l = kvs es2.toList := by
          rw [hm', hk', hx']
          unfold putE at hl
          rw [findNow_kv 0 hkv] at hl
          split at hl
          · rename_i hf
            injection hl with hl
            subst hl
            refine ⟨es'.push { key := ρ k, val := ρ x, born := c }, c + 1, ?_, by simp [kvs] at hkv ⊢; exact hkv⟩
            simp [Instr.mapUpdate, run_underlying hm, Result.andThen, Go.MapKept.run_getObj_map hB, checkKey_int hk, Go.MapKept.run_findKey hk hf, (setObj_at hB).1]
          · rename_i r hf
            injection hl with hl
            subst hl
            obtain ⟨e, g1, g2, _, j, n, g3⟩ := found_key _ _ _ hf
            have hkey : ((es'[r.1]?).map (·.key)).getD (ρ k) = ρ k := by
              have : es'[r.1]? = some e := by simpa using g1
              rw [this]
              exact g2
            have hst : (Instr.keyThatStays (ρ k) (ρ k)).run P w = .ok (ρ k) w := by
              rw [g3]
              simp [Instr.keyThatStays, Instr.sameBits, Sem.run]
            refine ⟨es'.modify r.1 fun e => { e with key := ρ k, val := ρ x }, c, ?_, ?_⟩
            · simp [Instr.mapUpdate, run_underlying hm, Result.andThen, Go.MapKept.run_getObj_map hB, checkKey_int hk, Go.MapKept.run_findKey hk hf, hkey, hst, (setObj_at hB).1]
            · rw [Array.toList_modify]
              exact kvs_modify hkv _ (ρ k) (ρ x) _ _ (fun e => ⟨rfl, rfl⟩) (fun e => ⟨rfl, rfl⟩)
          · cases hl
        obtain ⟨es2, c2, hrun, hkv2⟩ := main
        obtain ⟨_, q1, q2, q3⟩ := setObj_at (P := P) (o := .map es2 c2) hB
        refine ⟨.skip, { w with heap := w.heap.setIfInBounds b.1 (.map es2 c2) }, ι, undef, ?_, .inr ⟨rfl, rfl⟩, ?_, Dom.refl, VR.of_free rfl⟩
        · simp [execOp, ho, hrun, Result.andThen, Sem.run]
        · show Step P ι s.h.get w ι (s.h.set b0 (some (.ro (.map l.toArray 0) true))).get _
          rw [Tr.get_set]
          exact Step.storeM he hO hb ⟨_, _, es2, c2, rfl, q1, by simpa using hkv2⟩ q2 q3 rfl rfl rfl
      · cases h
    · cases h
  · cases h
theorem makeMap_sound {o : Oper} {t : TypeId} {r : Option Operand} (ho : o.op = .makeMap t r) (hρ : ∀ x, VR ι (ρ x) (ρ' x)) (he : Emb P ι s.h.get w) (hf : Fresh ι s.n s'.n) (h : evMakeMap P ρ t r s = some (v, s')) :
    Res P ((execOp ρ' o).run P w) s ι w v s' := by
  have main : ∀ (hr : (Instr.makeMap t (r.map ρ')).run P w = .ok (.map (some w.heap.size)) (w.alloc (.map #[] 0))) (_ : v = .map (some s.n)) (_ : s' = s.addM (.map #[] 0)), Res P ((execOp ρ' o).run P w) s ι w v s' := by
    rintro hr rfl rfl
    have st := Step.allocM he (hf.2 s.n (Nat.le_refl _) (Nat.lt_succ_self _)) (O := .map #[] 0) (O' := .map #[] 0) ⟨_, _, _, _, rfl, rfl, rfl⟩ 0
    refine ⟨.value (.map (some w.heap.size)), w.alloc (.map #[] 0), upd ι s.n (some (w.heap.size, 0)), .map (some w.heap.size), ?_, .inl rfl, ?_, Dom.one, .map (b := (w.heap.size, 0)) upd_same⟩
    · simp [execOp, ho, hr, Result.andThen, Sem.run]
    · show Step P ι s.h.get w _ (s.h.set s.n (some (.ro (.map #[] 0) true))).get _
      rw [Tr.get_set]
      exact st
  unfold evMakeMap at h
  split at h
  · injection h with h
    injection h with h1 h2
    exact main (by simp [Instr.makeMap, newObj, Result.andThen, Sem.run]) h1.symm h2.symm
  · rename_i x
    split at h
    · rename_i kt et kk n hm hx
      injection h with h
      injection h with h1 h2
      have := (hx ▸ hρ x).int_inv
      exact main (by simp [Instr.makeMap, newObj, Result.andThen, Sem.run, run_underlying hm, this, asInt, asIntOf]) h1.symm h2.symm
    · cases h
theorem clear_sound {t ty : TypeId} {x x' : Value} (hx : VR ι x x') (he : Emb P ι s.h.get w) (h : evClear P s t x = some (v, s')) :
    ∃ w', (Builtin.clear_ #[t] ty #[x']).run P w = .ok (.tuple #[]) w' ∧ Step P ι s.h.get w ι s'.h.get w' ∧ s'.n = s.n ∧ v = .tuple #[] := by
  unfold evClear at h
  split at h
  · rename_i kt et hm
    injection h with h
    injection h with h1 h2
    subst h1 h2
    refine ⟨w, ?_, Step.refl he, rfl, rfl⟩
    rw [hx.map_none]
    simp [Builtin.clear_, run_underlying hm, Result.andThen, Sem.run]
  · rename_i kt et b0 hm
    split at h
    · rename_i es hes
      injection h with h
      injection h with h1 h2
      subst h1 h2
      obtain ⟨b, hb, hx'⟩ := hx.map_inv
      obtain ⟨b2, es', c, hb2, hB, hkv, O, hO⟩ := ents_spec he hes
      rw [hb] at hb2; injection hb2 with hb2; subst hb2
      obtain ⟨q0, q1, q2, q3⟩ := setObj_at (P := P) (o := .map #[] c) hB
      refine ⟨{ w with heap := w.heap.setIfInBounds b.1 (.map #[] c) }, ?_, ?_, rfl, rfl⟩
      · rw [hx']
        simp [Builtin.clear_, run_underlying hm, Result.andThen, Sem.run, Go.MapKept.run_getObj_map hB, q0]
      · show Step P ι s.h.get w ι (s.h.set b0 (some (.ro (.map #[] 0) true))).get _
        rw [Tr.get_set]
        exact Step.storeM he hO hb ⟨_, _, #[], c, rfl, q1, rfl⟩ q2 q3 rfl rfl rfl
    · cases h
  · cases h
theorem lookupT_eq {t : TypeId} {x ix : Operand} {ok : Bool} {r : Option Value} (hob : ∀ p ∈ s'.ob, p.1 = p.2) (h : evLookupT P ρ t x ix ok r s = some (v, s')) : ∃ s1, evLookup P ρ t x ix ok s = some (v, s1) ∧ s'.h = s1.h ∧ s'.n = s1.n := by
  unfold evLookupT at h
  split at h
  · rename_i kt et hm
    split at h
    · rename_i q z es hk hz hes
      obtain ⟨hat, h⟩ := bif_some h
      simp only [Bool.and_eq_true] at hat
      injection h with h
      injection h with h1 h2
      subst h1 h2
      have := dP_iff.1 (hob _ (List.mem_cons_self (a := (dP (lookE q (ρ ix) es = some r), true))))
      refine ⟨s, ?_, rfl, rfl⟩
      simp only [evLookup, hm, hk, hz, hes, hat.1, this, hat.2, cond_true]
    · cases h
  · cases h
theorem updateT_eq {t : TypeId} {m k x : Operand} {l : List MapEntry} (hob : ∀ p ∈ s'.ob, p.1 = p.2) (h : evUpdateT P ρ t m k x l s = some (v, s')) : ∃ s1, evUpdate P ρ t m k x s = some (v, s1) ∧ s'.h = s1.h ∧ s'.n = s1.n := by
  unfold evUpdateT at h
  split at h
  · rename_i kt et b hm hmm
    split at h
    · rename_i q es hk hes
      obtain ⟨hat, h⟩ := bif_some h
      injection h with h
      injection h with h1 h2
      subst h1 h2
      have := dP_iff.1 (hob _ (List.mem_cons_self (a := (dP (putE q (ρ k) (ρ x) es = some l), true))))
      refine ⟨s.putM b (.map l.toArray 0), ?_, rfl, rfl⟩
      simp only [evUpdate, hm, hmm, hk, hes, hat, this, cond_true]
    · cases h
  · cases h
end
end Ev
end Go.Proofs.Ytbhnaaingkbeiaa
