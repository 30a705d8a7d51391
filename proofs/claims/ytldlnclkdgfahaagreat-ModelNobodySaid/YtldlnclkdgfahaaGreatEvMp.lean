/- Maps whose keys are numbers: each operation of the runner against the model's own. -/
import Derived.Test.YtldlnclkdgfahaaGreatEvFa
import Derived.MapKept
import Derived.WideKeyRuns
namespace Go.Proofs.YtldlnclkdgfahaaGreat
open Go.RowKit
namespace Ev
section
variable {P : Program} {ι : Ren} {w : World} {ρ ρ' : Operand → Value} {s s' : St} {v : Value}
theorem kvs_get {es es' : List MapEntry} (h : kvs es = kvs es') (i : Nat) : (es[i]?).map (fun e => (e.key, e.val)) = (es'[i]?).map (fun e => (e.key, e.val)) := by
  have := congrArg (fun l => l[i]?) h
  simpa [kvs] using this
theorem findNow_kv {d : TypeDesc} {k : Value} : ∀ {es es' : List MapEntry} (i : Nat), kvs es = kvs es' → Instr.findNow d k es i = Instr.findNow d k es' i
  | [], [], _, _ => rfl
  | [], _ :: _, _, h => by simp [kvs] at h
  | _ :: _, [], _, h => by simp [kvs] at h
  | e :: es, e' :: es', i, h => by
    simp only [kvs, List.map_cons, List.cons.injEq, Prod.mk.injEq] at h
    simp only [Instr.findNow]
    rw [h.1.1, h.1.2, findNow_kv (i + 1) h.2]
theorem kvs_modify {es es' : List MapEntry} (h : kvs es = kvs es') (i : Nat) (k x : Value) (f g : MapEntry → MapEntry) (hf : ∀ e, (f e).key = k ∧ (f e).val = x) (hg : ∀ e, (g e).key = k ∧ (g e).val = x) : kvs (es.modify i f) = kvs (es'.modify i g) := by
  apply List.ext_getElem?
  intro j
  simp only [kvs, List.getElem?_map, List.getElem?_modify]
  have hj := kvs_get h j
  cases h1 : es[j]? <;> cases h2 : es'[j]? <;> rw [h1, h2] at hj <;> simp at hj ⊢
  rename_i a b
  by_cases hij : i = j
  · simp [hij, (hf a).1, (hf a).2, (hg b).1, (hg b).2]
  · simp [hij, hj]
/-- The entry that is found has the key. -/
theorem found_key {q : IntKind} {k : Value} : ∀ (l : List MapEntry) (i : Nat) (r : Nat × Value), Instr.findNow (.int q) k l i = some (some r) → ∃ e, l[r.1 - i]? = some e ∧ e.key = k ∧ i ≤ r.1 ∧ ∃ j n, k = .int j n
  | [], i, r, h => by simp [Instr.findNow] at h
  | e :: l, i, r, h => by
    simp only [Instr.findNow] at h
    split at h
    · rename_i hs
      injection h with h; injection h with h; subst h
      unfold Instr.sameNow at hs
      split at hs
      · rename_i a b c d hk
        split at hs
        · injection hs with hs
          rename_i hab
          have := beq_iff_eq.1 hs
          subst this hab
          exact ⟨e, by simp, hk, Nat.le_refl _, _, _, rfl⟩
        · cases hs
      · exact absurd ‹TypeDesc.int q = TypeDesc.string› (by simp)
      · exact absurd ‹TypeDesc.int q = TypeDesc.bool› (by simp)
      · cases hs
    · obtain ⟨e', h1, h2, h3, h4⟩ := found_key l (i + 1) r h
      refine ⟨e', ?_, h2, by omega, h4⟩
      rw [show r.1 - i = (r.1 - (i + 1)) + 1 by omega]
      exact h1
    · cases h
theorem checkKey_int {kt : TypeId} {q : IntKind} (hk : P.underlying kt = some (.int q)) (k : Value) (e : Bool) (n : Nat) : (Instr.checkKey e (n + 1) kt k).run P w = .ok () w := by
  simp only [Instr.checkKey, Sem.run_bind, run_underlying hk, Result.andThen]
  cases k <;> rfl
theorem setObj_at {r : Nat} {o : Obj} {es : Array MapEntry} {c : Nat} (hB : w.heap[r]? = some (.map es c)) : (setObj r o).run P w = .ok () { w with heap := w.heap.setIfInBounds r o } ∧ ({ w with heap := w.heap.setIfInBounds r o } : World).heap[r]? = some o ∧ (∀ i, i ≠ r → ({ w with heap := w.heap.setIfInBounds r o } : World).heap[i]? = w.heap[i]?) ∧ ({ w with heap := w.heap.setIfInBounds r o } : World).heap.size = w.heap.size :=
  ⟨Go.MapKept.run_setObj_map o hB, (Go.MapKept.heap_set hB).1, (Go.MapKept.heap_set hB).2, by simp⟩
theorem VR.map_inv {k : Nat} {v' : Value} (h : VR ι (.map (some k)) v') : ∃ b, ι k = some b ∧ v' = .map (some b.1) := by
  cases h with
  | atom h => simp [Ev.atom] at h
  | map h => exact ⟨_, h, rfl⟩
theorem VR.map_none {v' : Value} (h : VR ι (.map none) v') : v' = .map none := h.eq_of_atom rfl
/-- The map that stands there. -/
theorem ents_spec (he : Emb P ι s.h.get w) {k : Nat} {es : List MapEntry} (h : entsAt s (.map (some k)) = some es) : ∃ (b : Nat × Nat) (es' : Array MapEntry) (c : Nat), ι k = some b ∧ w.heap[b.1]? = some (.map es' c) ∧ kvs es = kvs es'.toList ∧ ∃ O, s.h.get k = some (.ro O true) := by
  simp only [entsAt] at h
  split at h
  · rename_i a c hk
    injection h with h
    subst h
    obtain ⟨b, hb, es1, c1, es', c', e1, e2, e3⟩ := he.ro k _ hk
    injection e1 with e1
    subst e1
    exact ⟨b, es', c', hb, e2, e3, _, hk⟩
  · cases h
theorem zeroW_spec {t : TypeId} {z : Value} (h : zeroW P t = some z) : (zeroValue t).run P w = .ok z w ∧ free1 z = true := by
  unfold zeroW at h
  split at h
  · rename_i i hi
    split at h
    · rename_i u hu
      obtain ⟨h1, h2⟩ := bif_some h
      injection h2 with h2
      subst h2
      exact ⟨by simp [zeroValue, typeInfo, hi, hu, Result.andThen], h1⟩
    · cases h
  · cases h
theorem plain_check {t : TypeId} (h : plainT P t = true) (v : Value) (e : Bool) (n : Nat) : (Instr.checkKey e (n + 1) t v).run P w = .ok () w := by
  unfold plainT at h
  split at h
  · rename_i q hq; exact checkKey_int hq v e n
  · rename_i hq
    simp only [Instr.checkKey, Sem.run_bind, run_underlying hq, Result.andThen]
    cases v <;> rfl
  · rename_i hq
    simp only [Instr.checkKey, Sem.run_bind, run_underlying hq, Result.andThen]
    cases v <;> rfl
  · cases h
theorem checkKey_string {kt : TypeId} (hk : P.underlying kt = some .string) (k : Value) (e : Bool) (n : Nat) : (Instr.checkKey e (n + 1) kt k).run P w = .ok () w := by
  simp only [Instr.checkKey, Sem.run_bind, run_underlying hk, Result.andThen]
  cases k <;> rfl
theorem part_some {t : TypeId} {cs : Array Value} {o : Nat} (h : (partOf P t cs o).isSome) : ∃ v, (part t cs o).run P w = .ok v w := by
  obtain ⟨v, hv⟩ := Option.isSome_iff_exists.1 h
  unfold partOf at hv
  split at hv
  · rename_i m hsh
    obtain ⟨hA, i, hi, him⟩ := run_isAgg (w := w) hsh
    subst him
    exact ⟨.agg (cs.extract o (o + i.size)), by simp [part, hA, Result.andThen, sizeOf, typeInfo, hi, Sem.run]⟩
  · rename_i m hsh
    obtain ⟨hA, _⟩ := run_isAgg (w := w) hsh
    have hlt : o < cs.size := (Array.getElem?_eq_some_iff.1 hv).1
    exact ⟨cs[o], by simp [part, hA, Result.andThen, Sem.run, Array.getElem?_eq_getElem hlt]⟩
  · cases hv
theorem checkKey_struct {kt : TypeId} {fs : Array Field} (hk : P.underlying kt = some (.struct fs)) {cs : Array Value} (e : Bool) (n : Nat) (h : keyOk P cs fs.toList = true) : (Instr.checkKey e (n + 2) kt (.agg cs)).run P w = .ok () w := by
  rw [Instr.checkKey]
  simp only [Sem.run_bind, run_underlying hk, Result.andThen_ok]
  rw [← Array.forIn_toList]
  generalize fs.toList = l at h
  clear hk
  induction l with
  | nil => simp
  | cons f l ih =>
    simp only [keyOk, Bool.and_eq_true, Bool.or_eq_true, beq_iff_eq] at h
    simp only [List.forIn_cons, Sem.run_bind, Sem.run_ite]
    rcases h.1 with h1 | h1
    · simp only [h1, ne_eq, not_true_eq_false, if_false, Sem.run_pure, Result.andThen_ok]
      exact ih h.2
    · by_cases hn : f.name = "_"
      · simp only [hn, ne_eq, not_true_eq_false, if_false, Sem.run_pure, Result.andThen_ok]
        exact ih h.2
      · obtain ⟨v, hv⟩ := part_some (w := w) h1.2
        simp only [hn, ne_eq, not_false_eq_true, if_true, hv, plain_check h1.1 v e n, Result.andThen_ok, Sem.run_pure]
        exact ih h.2
theorem findEq_run {kt : TypeId} {k : Value} (hkf : free1 k = true) : ∀ {es es' : List MapEntry} (i : Nat) {a : Option (Nat × Value)}, kvs es = kvs es' → findEq P kt k es i = some a → (Instr.findAsking kt k es' i).run P w = .ok a w
  | [], [], _, a, _, h => by simp only [findEq] at h; injection h with h; subst h; rfl
  | [], _ :: _, _, _, h, _ => by simp [kvs] at h
  | _ :: _, [], _, _, h, _ => by simp [kvs] at h
  | e :: es, e' :: es', i, a, hkv, h => by
    simp only [kvs, List.map_cons, List.cons.injEq, Prod.mk.injEq] at hkv
    simp only [findEq] at h
    obtain ⟨hf, h⟩ := bif_some h
    have hv := VR.of_free1 (ι := fun _ => none) hf
    have hk := VR.of_free1 (ι := fun _ => none) hkf
    split at h
    · rename_i hq
      injection h with h
      subst h
      obtain ⟨_, _, _, _, _, hr⟩ := aggEq_run (w := w) hk hv hq
      rw [Instr.findAsking, ← hkv.1.1, ← hkv.1.2]
      simp [hr, Result.andThen, Sem.run]
    · rename_i hq
      obtain ⟨_, _, _, _, _, hr⟩ := aggEq_run (w := w) hk hv hq
      rw [Instr.findAsking, ← hkv.1.1]
      simp only [Sem.run_bind, hr, Result.andThen_ok, Bool.false_eq_true, if_false]
      exact findEq_run hkf (i + 1) hkv.2 h
    · cases h
theorem findM_run {kt : TypeId} {k : Value} {es es' : List MapEntry} {a : Option (Nat × Value)} (hkf : free1 k = true) (hes : kvs es = kvs es') (h : findM P kt k es = some a) : (Instr.findKey kt k es').run P w = .ok a w ∧ ∀ e, (Instr.checkKey e 10000 kt k).run P w = .ok () w := by
  unfold findM at h
  split at h
  · rename_i q hq
    rw [findNow_kv 0 hes] at h
    exact ⟨Go.MapKept.run_findKey hq h, fun e => checkKey_int hq k e 9999⟩
  · rename_i hq
    rw [findNow_kv 0 hes] at h
    exact ⟨Go.MapKept.run_findKey hq h, fun e => checkKey_string hq k e 9999⟩
  · rename_i fs hq
    split at h
    · rename_i cs
      obtain ⟨h1, h⟩ := bif_some h
      refine ⟨?_, fun e => checkKey_struct hq e 9998 h1⟩
      rw [run_findKey_eq (w := w) (by rw [hq])]
      exact findEq_run hkf 0 hes h
    · cases h
  · cases h
theorem free_of1 {z : Value} (h : free1 z = true) : free z = true := by
  cases z <;> first | exact h | (simp [free1, atom] at h)
theorem free_lookV {z : Value} {ok : Bool} {r : Option Value} (h1 : free1 z = true) (h2 : free1O r = true) : free (lookV z ok r) = true := by
  have h3 : free1 (r.getD z) = true := by cases r with | none => exact h1 | some u => exact h2
  cases ok with
  | false => exact free_of1 h3
  | true =>
    show (free1 (r.getD z) && (true && true)) = true
    rw [h3]
    rfl
theorem lookup_nil {t kt et : TypeId} {z k : Value} {ok : Bool} {r : Option (Nat × Value)} (hkf : free1 k = true) (hm : P.underlying t = some (.map kt et)) (hz : (zeroValue et).run P w = .ok z w) (hr : findM P kt k [] = some r) :
    (Instr.lookup t (.map none) k ok).run P w = .ok (lookV z ok (r.map (·.2))) w := by
  obtain ⟨ha, hc⟩ := findM_run (w := w) (es' := []) hkf rfl hr
  simp only [Instr.lookup, Sem.run_bind, Sem.run, run_underlying hm, Result.andThen, hc, ha, Sem.run_pure]
  cases r with
  | none => cases ok <;> simp [lookV, hz, Result.andThen, Sem.run]
  | some a => cases ok <;> simp [lookV, Result.andThen, Sem.run]
theorem lookup_map {t kt et : TypeId} {z k : Value} {ok : Bool} {r : Option (Nat × Value)} {b : Nat} {es : List MapEntry} {es' : Array MapEntry} {c : Nat} (hkf : free1 k = true) (hm : P.underlying t = some (.map kt et)) (hz : (zeroValue et).run P w = .ok z w) (hB : w.heap[b]? = some (.map es' c)) (hkv : kvs es = kvs es'.toList) (hr : findM P kt k es = some r) :
    (Instr.lookup t (.map (some b)) k ok).run P w = .ok (lookV z ok (r.map (·.2))) w := by
  obtain ⟨ha, hc⟩ := findM_run (w := w) hkf hkv hr
  simp only [Instr.lookup, Sem.run_bind, Sem.run, run_underlying hm, Result.andThen, Go.MapKept.run_getObj_map hB, hc, ha, Sem.run_pure]
  cases r with
  | none => cases ok <;> simp [lookV, hz, Result.andThen, Sem.run]
  | some a => cases ok <;> simp [lookV, Result.andThen, Sem.run]
theorem lookup_sound {o : Oper} {t : TypeId} {x ix : Operand} {ok : Bool} (ho : o.op = .lookup t x ix ok) (hρ : ∀ x, VR ι (ρ x) (ρ' x)) (he : Emb P ι s.h.get w) (h : evLookup P ρ t x ix ok s = some (v, s')) :
    s' = s ∧ Res P ((execOp ρ' o).run P w) s ι w v s' := by
  unfold evLookup at h
  split at h
  · rename_i kt et hm
    split at h
    · rename_i z es hz hes
      obtain ⟨hat, h⟩ := bif_some h
      split at h
      · rename_i r hr
        obtain ⟨hfr, h⟩ := bif_some h
        injection h with h
        injection h with h1 h2
        subst h1 h2
        refine ⟨rfl, ?_⟩
        have hix : ρ' ix = ρ ix := (hρ ix).eq_of_free1 hat
        obtain ⟨hz1, hz2⟩ := zeroW_spec (w := w) hz
        refine Res.same he (v' := lookV z ok (r.map (·.2))) ?_ (VR.of_free (free_lookV hz2 hfr))
        have key : (Instr.lookup t (ρ' x) (ρ' ix) ok).run P w = .ok (lookV z ok (r.map (·.2))) w := by
          rw [hix]
          cases hx : ρ x with
          | map m =>
            have hv := hx ▸ hρ x
            cases m with
            | none =>
              rw [hv.map_none]
              rw [hx] at hes
              injection hes with hes
              subst hes
              exact lookup_nil hat hm hz1 hr
            | some k =>
              obtain ⟨b, hb, hx'⟩ := hv.map_inv
              rw [hx] at hes
              obtain ⟨b2, es', c, hb2, hB, hkv, _⟩ := ents_spec he hes
              rw [hb] at hb2; injection hb2 with hb2; subst hb2
              rw [hx']
              exact lookup_map hat hm hz1 hB hkv hr
          | _ => rw [hx] at hes; simp [entsAt] at hes
        simp [execOp, ho, key, Result.andThen, Sem.run]
      · cases h
    · cases h
  · cases h
theorem update_sound {o : Oper} {t : TypeId} {m k x : Operand} (ho : o.op = .mapUpdate t m k x) (hρ : ∀ x, VR ι (ρ x) (ρ' x)) (he : Emb P ι s.h.get w) (h : evUpdate P ρ t m k x s = some (v, s')) :
    Res P ((execOp ρ' o).run P w) s ι w v s' := by
  unfold evUpdate at h
  split at h
  · rename_i kt et b0 hm hmm
    split at h
    · rename_i es hes
      obtain ⟨hat, h⟩ := bif_some h
      simp only [Bool.and_eq_true] at hat
      split at h
      · rename_i l hl
        injection h with h
        injection h with h1 h2
        subst h1 h2
        have hk' : ρ' k = ρ k := (hρ k).eq_of_free1 hat.1
        have hx' : ρ' x = ρ x := (hρ x).eq_of_free1 hat.2
        obtain ⟨b, hb, hm'⟩ := (hmm ▸ hρ m).map_inv
        obtain ⟨b2, es', c, hb2, hB, hkv, O, hO⟩ := ents_spec he hes
        rw [hb] at hb2; injection hb2 with hb2; subst hb2
        have main : ∃ (es2 : Array MapEntry) (c2 : Nat), (Instr.mapUpdate t (ρ' m) (ρ' k) (ρ' x)).run P w = .ok () { w with heap := w.heap.setIfInBounds b.1 (.map es2 c2) } ∧ kvs l = kvs es2.toList := by
          rw [hm', hk', hx']
          unfold putM at hl
          split at hl
          · rename_i hf
            obtain ⟨hf, hc⟩ := findM_run (w := w) hat.1 hkv hf
            injection hl with hl
            subst hl
            refine ⟨es'.push { key := ρ k, val := ρ x, born := c }, c + 1, ?_, by simp [kvs] at hkv ⊢; exact hkv⟩
            simp [Instr.mapUpdate, run_underlying hm, Result.andThen, Go.MapKept.run_getObj_map hB, hc, hf, (setObj_at hB).1]
          · rename_i r hf
            obtain ⟨hf, hc⟩ := findM_run (w := w) hat.1 hkv hf
            obtain ⟨hb, hl⟩ := bif_some hl
            injection hl with hl
            subst hl
            have hkey : ((es'[r.1]?).map (·.key)).getD (ρ k) = ((es[r.1]?).map (·.key)).getD (ρ k) := by
              have := kvs_get hkv r.1
              rw [show es'.toList[r.1]? = es'[r.1]? from by simp] at this
              have h2 := congrArg (Option.map (·.1)) this
              simp only [Option.map_map] at h2
              have e : ∀ o : Option MapEntry, o.map ((fun x : Value × Value => x.1) ∘ fun e => (e.key, e.val)) = o.map (·.key) := fun o => by cases o <;> rfl
              rw [e, e] at h2
              rw [h2]
            have hst : (Instr.keyThatStays (((es[r.1]?).map (·.key)).getD (ρ k)) (ρ k)).run P w = .ok (ρ k) w := by
              simp [Instr.keyThatStays, hb, Sem.run]
            refine ⟨es'.modify r.1 fun e => { e with key := ρ k, val := ρ x }, c, ?_, ?_⟩
            · simp [Instr.mapUpdate, run_underlying hm, Result.andThen, Go.MapKept.run_getObj_map hB, hc, hf, hkey, hst, (setObj_at hB).1]
            · rw [Array.toList_modify]
              exact kvs_modify hkv _ (ρ k) (ρ x) _ _ (fun e => ⟨rfl, rfl⟩) (fun e => ⟨rfl, rfl⟩)
          · cases hl
        obtain ⟨es2, c2, hrun, hkv2⟩ := main
        obtain ⟨_, q1, q2, q3⟩ := setObj_at (P := P) (o := .map es2 c2) hB
        refine ⟨.skip, { w with heap := w.heap.setIfInBounds b.1 (.map es2 c2) }, ι, undef, ?_, .inr ⟨rfl, rfl⟩, ?_, Dom.refl, VR.of_free rfl⟩
        · simp [execOp, ho, hrun, Result.andThen, Sem.run]
        · show Step P ι s.h.get w ι (s.h.set b0 (some (.ro (.map l.toArray 0) true))).get _
          rw [Tr.get_set]
          exact Step.storeM he hO hb ⟨_, _, es2, c2, rfl, q1, by simpa using hkv2⟩ q2 q3 rfl rfl rfl
      · cases h
    · cases h
  · cases h
theorem kvs_erase : ∀ {es es' : List MapEntry} (h : kvs es = kvs es') (i : Nat), kvs (es.eraseIdx i) = kvs (es'.eraseIdx i)
  | [], [], _, _ => rfl
  | [], _ :: _, h, _ => by simp [kvs] at h
  | _ :: _, [], h, _ => by simp [kvs] at h
  | e :: es, e' :: es', h, 0 => by
    simp only [kvs, List.map_cons, List.cons.injEq] at h
    exact h.2
  | e :: es, e' :: es', h, i + 1 => by
    simp only [kvs, List.map_cons, List.cons.injEq] at h
    have := kvs_erase h.2 i
    simp only [kvs] at this
    simp only [List.eraseIdx_cons_succ, kvs, List.map_cons, h.1, this]
theorem delete_sound {t t2 ty : TypeId} {x x' k k' : Value} (hx : VR ι x x') (hk : VR ι k k') (he : Emb P ι s.h.get w) (h : evDelete P s t x k = some (v, s')) :
    ∃ w', (Builtin.delete_ #[t, t2] ty #[x', k']).run P w = .ok (.tuple #[]) w' ∧ Step P ι s.h.get w ι s'.h.get w' ∧ s'.n = s.n ∧ v = .tuple #[] := by
  unfold evDelete at h
  split at h
  · rename_i kt et b0 hm
    split at h
    · rename_i es hes
      obtain ⟨hkf, h⟩ := bif_some h
      have hk' : k' = k := hk.eq_of_free1 hkf
      obtain ⟨b, hb, hx'⟩ := hx.map_inv
      obtain ⟨b2, es', c, hb2, hB, hkv, O, hO⟩ := ents_spec he hes
      rw [hb] at hb2; injection hb2 with hb2; subst hb2
      split at h
      · rename_i r hf
        obtain ⟨hf, hc⟩ := findM_run (w := w) hkf hkv hf
        injection h with h
        injection h with h1 h2
        subst h1 h2
        obtain ⟨q0, q1, q2, q3⟩ := setObj_at (P := P) (o := .map (es'.eraseIdxIfInBounds r.1) c) hB
        refine ⟨{ w with heap := w.heap.setIfInBounds b.1 (.map (es'.eraseIdxIfInBounds r.1) c) }, ?_, ?_, rfl, rfl⟩
        · rw [hx', hk']
          simp [Builtin.delete_, run_underlying hm, Result.andThen, Sem.run, Go.MapKept.run_getObj_map hB, hc, hf, q0]
        · show Step P ι s.h.get w ι (s.h.set b0 (some (.ro (.map (es.eraseIdx r.1).toArray 0) true))).get _
          rw [Tr.get_set]
          refine Step.storeM he hO hb ⟨_, _, _, c, rfl, q1, ?_⟩ q2 q3 rfl rfl rfl
          have : (es'.eraseIdxIfInBounds r.1).toList = es'.toList.eraseIdx r.1 := by
            unfold Array.eraseIdxIfInBounds
            split
            · rw [Array.toList_eraseIdx]
            · rename_i hi
              rw [List.eraseIdx_of_length_le (by simpa using hi)]
          rw [this]
          simpa using kvs_erase hkv r.1
      · rename_i hf
        obtain ⟨hf, hc⟩ := findM_run (w := w) hkf hkv hf
        injection h with h
        injection h with h1 h2
        subst h1 h2
        obtain ⟨q0, q1, q2, q3⟩ := setObj_at (P := P) (o := .map es' c) hB
        refine ⟨{ w with heap := w.heap.setIfInBounds b.1 (.map es' c) }, ?_, ?_, rfl, rfl⟩
        · rw [hx', hk']
          simp [Builtin.delete_, run_underlying hm, Result.andThen, Sem.run, Go.MapKept.run_getObj_map hB, hc, hf, q0]
        · show Step P ι s.h.get w ι (s.h.set b0 (some (.ro (.map es.toArray 0) true))).get _
          rw [Tr.get_set]
          exact Step.storeM he hO hb ⟨_, _, _, c, rfl, q1, by simpa using hkv⟩ q2 q3 rfl rfl rfl
      · cases h
    · cases h
  · cases h
theorem mapLen_sound {t kt et ty : TypeId} {b0 : Nat} {x' : Value} {es : List MapEntry} (hm : P.underlying t = some (.map kt et)) (hx : VR ι (.map (some b0)) x') (he : Emb P ι s.h.get w) (hes : entsAt s (.map (some b0)) = some es) : (Builtin.len_ #[t] ty #[x']).run P w = .ok (goInt es.length) w := by
  obtain ⟨b, hb, hx'⟩ := hx.map_inv
  obtain ⟨b2, es', c, hb2, hB, hkv, O, hO⟩ := ents_spec he hes
  rw [hb] at hb2; injection hb2 with hb2; subst hb2
  have hl : es.length = es'.size := by
    have := congrArg List.length hkv
    simpa [kvs] using this
  rw [hx']
  simp [Builtin.len_, run_underlying hm, Result.andThen, Sem.run, Go.MapKept.run_getObj_map hB, hl]
theorem makeMap_sound {o : Oper} {t : TypeId} {r : Option Operand} (ho : o.op = .makeMap t r) (hρ : ∀ x, VR ι (ρ x) (ρ' x)) (he : Emb P ι s.h.get w) (hf : Fresh ι s.n s'.n) (h : evMakeMap P ρ t r s = some (v, s')) :
    Res P ((execOp ρ' o).run P w) s ι w v s' := by
  have main : ∀ (hr : (Instr.makeMap t (r.map ρ')).run P w = .ok (.map (some w.heap.size)) (w.alloc (.map #[] 0))) (_ : v = .map (some s.n)) (_ : s' = s.addM (.map #[] 0)), Res P ((execOp ρ' o).run P w) s ι w v s' := by
    rintro hr rfl rfl
    have st := Step.allocM he (hf.2 s.n (Nat.le_refl _) (Nat.lt_succ_self _)) (O := .map #[] 0) (O' := .map #[] 0) ⟨_, _, _, _, rfl, rfl, rfl⟩ 0
    refine ⟨.value (.map (some w.heap.size)), w.alloc (.map #[] 0), upd ι s.n (some (w.heap.size, 0)), .map (some w.heap.size), ?_, .inl rfl, ?_, Dom.one, .map (b := (w.heap.size, 0)) upd_same⟩
    · simp [execOp, ho, hr, Result.andThen, Sem.run]
    · show Step P ι s.h.get w _ (s.h.set s.n (some (.ro (.map #[] 0) true))).get _
      rw [Tr.get_set]
      exact st
  unfold evMakeMap at h
  split at h
  · injection h with h
    injection h with h1 h2
    exact main (by simp [Instr.makeMap, newObj, Result.andThen, Sem.run]) h1.symm h2.symm
  · rename_i x
    split at h
    · rename_i kt et kk n hm hx
      injection h with h
      injection h with h1 h2
      have := (hx ▸ hρ x).int_inv
      exact main (by simp [Instr.makeMap, newObj, Result.andThen, Sem.run, run_underlying hm, this, asInt, asIntOf]) h1.symm h2.symm
    · cases h
theorem clear_sound {t ty : TypeId} {x x' : Value} (hx : VR ι x x') (he : Emb P ι s.h.get w) (h : evClear P s t x = some (v, s')) :
    ∃ w', (Builtin.clear_ #[t] ty #[x']).run P w = .ok (.tuple #[]) w' ∧ Step P ι s.h.get w ι s'.h.get w' ∧ s'.n = s.n ∧ v = .tuple #[] := by
  unfold evClear at h
  split at h
  · rename_i kt et hm
    injection h with h
    injection h with h1 h2
    subst h1 h2
    refine ⟨w, ?_, Step.refl he, rfl, rfl⟩
    rw [hx.map_none]
    simp [Builtin.clear_, run_underlying hm, Result.andThen, Sem.run]
  · rename_i kt et b0 hm
    split at h
    · rename_i es hes
      injection h with h
      injection h with h1 h2
      subst h1 h2
      obtain ⟨b, hb, hx'⟩ := hx.map_inv
      obtain ⟨b2, es', c, hb2, hB, hkv, O, hO⟩ := ents_spec he hes
      rw [hb] at hb2; injection hb2 with hb2; subst hb2
      obtain ⟨q0, q1, q2, q3⟩ := setObj_at (P := P) (o := .map #[] c) hB
      refine ⟨{ w with heap := w.heap.setIfInBounds b.1 (.map #[] c) }, ?_, ?_, rfl, rfl⟩
      · rw [hx']
        simp [Builtin.clear_, run_underlying hm, Result.andThen, Sem.run, Go.MapKept.run_getObj_map hB, q0]
      · show Step P ι s.h.get w ι (s.h.set b0 (some (.ro (.map #[] 0) true))).get _
        rw [Tr.get_set]
        exact Step.storeM he hO hb ⟨_, _, #[], c, rfl, q1, rfl⟩ q2 q3 rfl rfl rfl
    · cases h
  · cases h
theorem lookE_findM {kt : TypeId} {q : IntKind} (hk : P.underlying kt = some (.int q)) {k : Value} {es : List MapEntry} {r : Option Value} (h : lookE q k es = some r) : ∃ a, findM P kt k es = some a ∧ a.map (·.2) = r := by
  unfold lookE at h
  unfold findM
  rw [hk]
  split at h
  · rename_i a ha
    injection h with h
    subst h
    exact ⟨some a, ha, rfl⟩
  · rename_i ha
    injection h with h
    subst h
    exact ⟨none, ha, rfl⟩
  · cases h
theorem putE_putM {kt : TypeId} {q : IntKind} (hk : P.underlying kt = some (.int q)) {k x : Value} {es l : List MapEntry} (h : putE q k x es = some l) : putM P kt k x es = some l := by
  have hf : findM P kt k es = Instr.findNow (.int q) k es 0 := by unfold findM; rw [hk]
  unfold putE at h
  unfold putM
  rw [hf]
  split at h
  · rename_i ha
    first | exact h | (rw [ha]; exact h)
  · rename_i r ha
    obtain ⟨e, g1, g2, _, j, n, g3⟩ := found_key _ _ _ ha
    have hkey : ((es[r.1]?).map (·.key)).getD k = k := by
      have : es[r.1]? = some e := by simpa using g1
      rw [this]
      exact g2
    first | rw [ha] | skip
    show (bif Instr.sameBits 10000 (((es[r.1]?).map (·.key)).getD k) k then _ else none) = _
    rw [hkey, g3]
    simp only [Instr.sameBits, beq_self_eq_true, Bool.and_self, cond_true]
    rw [← g3]
    exact h
  · cases h
theorem lookupT_eq {t : TypeId} {x ix : Operand} {ok : Bool} {r : Option Value} (hob : ∀ p ∈ s'.ob, p.1 = p.2) (h : evLookupT P ρ t x ix ok r s = some (v, s')) : ∃ s1, evLookup P ρ t x ix ok s = some (v, s1) ∧ s'.h = s1.h ∧ s'.n = s1.n := by
  unfold evLookupT at h
  split at h
  · rename_i kt et hm
    split at h
    · rename_i q z es hk hz hes
      obtain ⟨hat, h⟩ := bif_some h
      simp only [Bool.and_eq_true] at hat
      injection h with h
      injection h with h1 h2
      subst h1 h2
      have := dP_iff.1 (hob _ (List.mem_cons_self (a := (dP (lookE q (ρ ix) es = some r), true))))
      obtain ⟨a, ha, rfl⟩ := lookE_findM hk this
      refine ⟨s, ?_, rfl, rfl⟩
      have hf1 : free1 (ρ ix) = true := by
        have := hat.1
        cases hx : ρ ix <;> rw [hx] at this <;> first | exact this | (simp [atom] at this)
      simp only [evLookup, hm, hz, hes, hf1, ha, hat.2, cond_true]
    · cases h
  · cases h
theorem updateT_eq {t : TypeId} {m k x : Operand} {l : List MapEntry} (hob : ∀ p ∈ s'.ob, p.1 = p.2) (h : evUpdateT P ρ t m k x l s = some (v, s')) : ∃ s1, evUpdate P ρ t m k x s = some (v, s1) ∧ s'.h = s1.h ∧ s'.n = s1.n := by
  unfold evUpdateT at h
  split at h
  · rename_i kt et b hm hmm
    split at h
    · rename_i q es hk hes
      obtain ⟨hat, h⟩ := bif_some h
      injection h with h
      injection h with h1 h2
      subst h1 h2
      have := dP_iff.1 (hob _ (List.mem_cons_self (a := (dP (putE q (ρ k) (ρ x) es = some l), true))))
      refine ⟨s.putM b (.map l.toArray 0), ?_, rfl, rfl⟩
      have hf1 : free1 (ρ k) = true := by
        have := (Bool.and_eq_true_iff.1 hat).1
        cases hx : ρ k <;> rw [hx] at this <;> first | exact this | (simp [atom] at this)
      simp only [evUpdate, hm, hmm, hes, hf1, (Bool.and_eq_true_iff.1 hat).2, Bool.and_self, putE_putM hk this, cond_true]
    · cases h
  · cases h
end
end Ev
end Go.Proofs.YtldlnclkdgfahaaGreat
