/- Part 2. -/
import Derived.Test.YtlbbiflodemagaaDoorZaa
import Derived.MapKept
import Derived.WideKeyRuns
import Derived.Lib.ConvBytes
import Derived.Laws.BytesString
import Derived.Laws.StructEq
import Derived.Laws.LoneSync
import Derived.Orders
import Derived.LoopN
import Derived.Scope
import Derived.Defers
set_option linter.unusedSimpArgs false
set_option linter.unusedVariables false
/- Maps whose keys are numbers: each operation of the runner against the model's own. -/
namespace Go.Proofs.YtlbbiflodemagaaDoor
open Go.RowKit
namespace Ev
section
variable {P : Program} {ι : Ren} {w : World} {ρ ρ' : Operand → Value} {s s' : St} {v : Value}
theorem Ztq {es es' : List MapEntry} (h : kvs es = kvs es') (i : Nat) : (es[i]?).map (fun e => (e.key, e.val)) = (es'[i]?).map (fun e => (e.key, e.val)) := by
 have := congrArg (fun l => l[i]?) h
 simpa [kvs] using this
theorem ZkJ {d : TypeDesc} {k : Value} : ∀ {es es' : List MapEntry} (i : Nat), kvs es = kvs es' → Instr.findNow d k es i = Instr.findNow d k es' i
 | [], [], _, _ => rfl
 | [], _ :: _, _, h => by simp [kvs] at h
 | _ :: _, [], _, h => by simp [kvs] at h
 | e :: es, e' :: es', i, h => by
  simp only [kvs, List.map_cons, List.cons.injEq, Prod.mk.injEq] at h
  simp only [Instr.findNow]
  rw [h.1.1, h.1.2, ZkJ (i + 1) h.2]
theorem ZtX {es es' : List MapEntry} (h : kvs es = kvs es') (i : Nat) (k x : Value) (f g : MapEntry → MapEntry) (hf : ∀ e, (f e).key = k ∧ (f e).val = x) (hg : ∀ e, (g e).key = k ∧ (g e).val = x) : kvs (es.modify i f) = kvs (es'.modify i g) := by
 apply List.ext_getElem?
 intro j
 simp only [kvs, List.getElem?_map, List.getElem?_modify]
 have hj := Ztq h j
 cases h1 : es[j]? <;> cases h2 : es'[j]? <;> rw [h1, h2] at hj <;> simp at hj ⊢
 rename_i a b
 by_cases hij : i = j
 ·simp [hij, (hf a).1, (hf a).2, (hg b).1, (hg b).2]
 ·simp [hij, hj]
theorem ZpR {q : IntKind} {k : Value} : ∀ (l : List MapEntry) (i : Nat) (r : Nat × Value), Instr.findNow (.int q) k l i = some (some r) → ∃ e, l[r.1 - i]? = some e ∧ e.key = k ∧ i ≤ r.1 ∧ ∃ j n, k = .int j n
 | [], i, r, h => by simp [Instr.findNow] at h
 | e :: l, i, r, h => by
  simp only [Instr.findNow] at h
  split at h
  ·rename_i hs
   injection h with h; injection h with h; subst h
   unfold Instr.sameNow at hs
   split at hs
   ·rename_i a b c d hk
    split at hs
    ·injection hs with hs
     rename_i hab
     have := beq_iff_eq.1 hs
     subst this hab
     exact ⟨e, by simp, hk, Nat.le_refl _, _, _, rfl⟩
    ·cases hs
   ·exact absurd ‹TypeDesc.int q = TypeDesc.string› (by simp)
   ·exact absurd ‹TypeDesc.int q = TypeDesc.bool› (by simp)
   ·cases hs
  ·obtain ⟨e', h1, h2, h3, h4⟩ := ZpR l (i + 1) r h
   refine ⟨e', ?_, h2, by omega, h4⟩
   rw [show r.1 - i = (r.1 - (i + 1)) + 1 by omega]
   exact h1
  ·cases h
theorem Zl5 {kt : TypeId} {q : IntKind} (hk : P.underlying kt = some (.int q)) (k : Value) (e : Bool) (n : Nat) : (Instr.checkKey e (n + 1) kt k).run P w = .ok () w := by
 simp only [Instr.checkKey, Sem.run_bind, run_underlying hk, Result.andThen]
 cases k <;> rfl
theorem Zg5 {r : Nat} {o : Obj} {es : Array MapEntry} {c : Nat} (hB : w.heap[r]? = some (.map es c)) : (setObj r o).run P w = .ok () { w with heap := w.heap.setIfInBounds r o } ∧ ({ w with heap := w.heap.setIfInBounds r o } : World).heap[r]? = some o ∧ (∀ i, i ≠ r → ({ w with heap := w.heap.setIfInBounds r o } : World).heap[i]? = w.heap[i]?) ∧ ({ w with heap := w.heap.setIfInBounds r o } : World).heap.size = w.heap.size :=
 ⟨Go.MapKept.run_setObj_map o hB, (Go.MapKept.heap_set hB).1, (Go.MapKept.heap_set hB).2, by simp⟩
theorem VR.map_inv {k : Nat} {v' : Value} (h : VR ι (.map (some k)) v') : ∃ b, ι k = some b ∧ v' = .map (some b.1) := by
 cases h with
 | atom h => simp [Ev.atom] at h
 | map h => exact ⟨_, h, rfl⟩
theorem VR.map_none {v' : Value} (h : VR ι (.map none) v') : v' = .map none := h.eq_of_atom rfl
theorem ZhI (he : Emb P ι s.h.get w) {k : Nat} {es : List MapEntry} (h : Zff s (.map (some k)) = some es) : ∃ (b : Nat × Nat) (es' : Array MapEntry) (c : Nat), ι k = some b ∧ w.heap[b.1]? = some (.map es' c) ∧ kvs es = kvs es'.toList ∧ ∃ O, s.h.get k = some (.ro O true) := by
 simp only [Zff] at h
 split at h
 ·rename_i a c hk
  injection h with h
  subst h
  obtain ⟨b, hb, ⟨es1, c1, es', c', e1, e2, e3⟩ | ⟨b1, p1, e1, _⟩⟩ := he.ro k _ hk
  rotate_left
  ·cases e1
  injection e1 with e1
  subst e1
  exact ⟨b, es', c', hb, e2, e3, _, hk⟩
 ·cases h
theorem ZtY {t : TypeId} {z : Value} (h : ZqC P t = some z) : (zeroValue t).run P w = .ok z w ∧ ZaN z = true := by
 unfold ZqC at h
 split at h
 ·rename_i i hi
  split at h
  ·rename_i u hu
   obtain ⟨h1, h2⟩ := Zo h
   injection h2 with h2
   subst h2
   exact ⟨by simp [zeroValue, typeInfo, hi, hu, Result.andThen], h1⟩
  ·cases h
 ·cases h
theorem ZsJ {t : TypeId} (h : ZqS P t = true) (v : Value) (e : Bool) (n : Nat) : (Instr.checkKey e (n + 1) t v).run P w = .ok () w := by
 unfold ZqS at h
 split at h
 ·rename_i q hq; exact Zl5 hq v e n
 ·rename_i hq
  simp only [Instr.checkKey, Sem.run_bind, run_underlying hq, Result.andThen]
  cases v <;> rfl
 ·rename_i hq
  simp only [Instr.checkKey, Sem.run_bind, run_underlying hq, Result.andThen]
  cases v <;> rfl
 ·cases h
theorem ZnU {kt : TypeId} (hk : P.underlying kt = some .string) (k : Value) (e : Bool) (n : Nat) : (Instr.checkKey e (n + 1) kt k).run P w = .ok () w := by
 simp only [Instr.checkKey, Sem.run_bind, run_underlying hk, Result.andThen]
 cases k <;> rfl
theorem Zvj {t : TypeId} {cs : Array Value} {o : Nat} (h : (Zfc P t cs o).isSome) : ∃ v, (part t cs o).run P w = .ok v w := by
 obtain ⟨v, hv⟩ := Option.isSome_iff_exists.1 h
 unfold Zfc at hv
 split at hv
 ·rename_i m hsh
  obtain ⟨hA, i, hi, him⟩ := Zfi (w := w) hsh
  subst him
  exact ⟨.agg (cs.extract o (o + i.size)), by simp [part, hA, Result.andThen, sizeOf, typeInfo, hi, Sem.run]⟩
 ·rename_i m hsh
  obtain ⟨hA, _⟩ := Zfi (w := w) hsh
  have hlt : o < cs.size := (Array.getElem?_eq_some_iff.1 hv).1
  exact ⟨cs[o], by simp [part, hA, Result.andThen, Sem.run, Array.getElem?_eq_getElem hlt]⟩
 ·cases hv
theorem ZnV {kt : TypeId} {fs : Array Field} (hk : P.underlying kt = some (.struct fs)) {cs : Array Value} (e : Bool) (n : Nat) (h : ZqB P cs fs.toList = true) : (Instr.checkKey e (n + 2) kt (.agg cs)).run P w = .ok () w := by
 rw [Instr.checkKey]
 simp only [Sem.run_bind, run_underlying hk, Result.andThen_ok]
 rw [← Array.forIn_toList]
 generalize fs.toList = l at h
 clear hk
 induction l with
 | nil => simp
 | cons f l ih =>
  simp only [ZqB, Bool.and_eq_true, Bool.or_eq_true, beq_iff_eq] at h
  simp only [List.forIn_cons, Sem.run_bind, Sem.run_ite]
  rcases h.1 with h1 | h1
  ·simp only [h1, ne_eq, not_true_eq_false, if_false, Sem.run_pure, Result.andThen_ok]
   exact ih h.2
  ·by_cases hn : f.name = "_"
   ·simp only [hn, ne_eq, not_true_eq_false, if_false, Sem.run_pure, Result.andThen_ok]
    exact ih h.2
   ·obtain ⟨v, hv⟩ := Zvj (w := w) h1.2
    simp only [hn, ne_eq, not_false_eq_true, if_true, hv, ZsJ h1.1 v e n, Result.andThen_ok, Sem.run_pure]
    exact ih h.2
theorem ZnW {kt : TypeId} {k : Value} (hkf : ZaN k = true) : ∀ {es es' : List MapEntry} (i : Nat) {a : Option (Nat × Value)}, kvs es = kvs es' → Zlw P kt k es i = some a → (Instr.findAsking kt k es' i).run P w = .ok a w
 | [], [], _, a, _, h => by simp only [Zlw] at h; injection h with h; subst h; rfl
 | [], _ :: _, _, _, h, _ => by simp [kvs] at h
 | _ :: _, [], _, _, h, _ => by simp [kvs] at h
 | e :: es, e' :: es', i, a, hkv, h => by
  simp only [kvs, List.map_cons, List.cons.injEq, Prod.mk.injEq] at hkv
  simp only [Zlw] at h
  obtain ⟨hf, h⟩ := Zo h
  have hv := VR.of_free1 (ι := fun _ => none) hf
  have hk := VR.of_free1 (ι := fun _ => none) hkf
  split at h
  ·rename_i hq
   injection h with h
   subst h
   obtain ⟨_, _, _, _, _, hr⟩ := Zj4 (w := w) hk hv hq
   rw [Instr.findAsking, ← hkv.1.1, ← hkv.1.2]
   simp [hr, Result.andThen, Sem.run]
  ·rename_i hq
   obtain ⟨_, _, _, _, _, hr⟩ := Zj4 (w := w) hk hv hq
   rw [Instr.findAsking, ← hkv.1.1]
   simp only [Sem.run_bind, hr, Result.andThen_ok, Bool.false_eq_true, if_false]
   exact ZnW hkf (i + 1) hkv.2 h
  ·cases h
theorem Zg6 {kt : TypeId} {k : Value} {es es' : List MapEntry} {a : Option (Nat × Value)} (hkf : ZaN k = true) (hes : kvs es = kvs es') (h : Zby P kt k es = some a) : (Instr.findKey kt k es').run P w = .ok a w ∧ ∀ e, (Instr.checkKey e 10000 kt k).run P w = .ok () w := by
 unfold Zby at h
 split at h
 ·rename_i q hq
  rw [ZkJ 0 hes] at h
  exact ⟨Go.MapKept.run_findKey hq h, fun e => Zl5 hq k e 9999⟩
 ·rename_i hq
  rw [ZkJ 0 hes] at h
  exact ⟨Go.MapKept.run_findKey hq h, fun e => ZnU hq k e 9999⟩
 ·rename_i fs hq
  split at h
  ·rename_i cs
   obtain ⟨h1, h⟩ := Zo h
   refine ⟨?_, fun e => ZnV hq e 9998 h1⟩
   rw [run_findKey_eq (w := w) (by rw [hq])]
   exact ZnW hkf 0 hes h
  ·cases h
 ·cases h
theorem Zwp {z : Value} (h : ZaN z = true) : Zbl z = true := by
 cases z <;> first | exact h | (simp [ZaN, atom] at h)
theorem ZtZ {z : Value} {ok : Bool} {r : Option Value} (h1 : ZaN z = true) (h2 : ZiP r = true) : Zbl (ZfF z ok r) = true := by
 have h3 : ZaN (r.getD z) = true := by cases r with | none => exact h1 | some u => exact h2
 cases ok with
 | false => exact Zwp h3
 | true =>
  show (ZaN (r.getD z) && (true && true)) = true
  rw [h3]
  rfl
theorem Zua {t kt et : TypeId} {z k : Value} {ok : Bool} {r : Option (Nat × Value)} (hkf : ZaN k = true) (hm : P.underlying t = some (.map kt et)) (hz : (zeroValue et).run P w = .ok z w) (hr : Zby P kt k [] = some r) :
  (Instr.lookup t (.map none) k ok).run P w = .ok (ZfF z ok (r.map (·.2))) w := by
 obtain ⟨ha, hc⟩ := Zg6 (w := w) (es' := []) hkf rfl hr
 simp only [Instr.lookup, Sem.run_bind, Sem.run, run_underlying hm, Result.andThen, hc, ha, Sem.run_pure]
 cases r with
 | none => cases ok <;> simp [ZfF, hz, Result.andThen, Sem.run]
 | some a => cases ok <;> simp [ZfF, Result.andThen, Sem.run]
theorem Zub {t kt et : TypeId} {z k : Value} {ok : Bool} {r : Option (Nat × Value)} {b : Nat} {es : List MapEntry} {es' : Array MapEntry} {c : Nat} (hkf : ZaN k = true) (hm : P.underlying t = some (.map kt et)) (hz : (zeroValue et).run P w = .ok z w) (hB : w.heap[b]? = some (.map es' c)) (hkv : kvs es = kvs es'.toList) (hr : Zby P kt k es = some r) :
  (Instr.lookup t (.map (some b)) k ok).run P w = .ok (ZfF z ok (r.map (·.2))) w := by
 obtain ⟨ha, hc⟩ := Zg6 (w := w) hkf hkv hr
 simp only [Instr.lookup, Sem.run_bind, Sem.run, run_underlying hm, Result.andThen, Go.MapKept.run_getObj_map hB, hc, ha, Sem.run_pure]
 cases r with
 | none => cases ok <;> simp [ZfF, hz, Result.andThen, Sem.run]
 | some a => cases ok <;> simp [ZfF, Result.andThen, Sem.run]
theorem Zl6 {o : Oper} {t : TypeId} {x ix : Operand} {ok : Bool} (ho : o.op = .lookup t x ix ok) (hρ : ∀ x, VR ι (ρ x) (ρ' x)) (he : Emb P ι s.h.get w) (h : Ze0 P ρ t x ix ok s = some (v, s')) :
  s' = s ∧ Res P ((execOp ρ' o).run P w) s ι w v s' := by
 unfold Ze0 at h
 split at h
 ·rename_i kt et hm
  split at h
  ·rename_i z es hz hes
   obtain ⟨hat, h⟩ := Zo h
   split at h
   ·rename_i r hr
    obtain ⟨hfr, h⟩ := Zo h
    injection h with h
    injection h with h1 h2
    subst h1 h2
    refine ⟨rfl, ?_⟩
    have hix : ρ' ix = ρ ix := (hρ ix).eq_of_free1 hat
    obtain ⟨hz1, hz2⟩ := ZtY (w := w) hz
    refine Res.same he (v' := ZfF z ok (r.map (·.2))) ?_ (VR.of_free (ZtZ hz2 hfr))
    have key : (Instr.lookup t (ρ' x) (ρ' ix) ok).run P w = .ok (ZfF z ok (r.map (·.2))) w := by
     rw [hix]
     cases hx : ρ x with
     | map m =>
      have hv := hx ▸ hρ x
      cases m with
      | none =>
       rw [hv.map_none]
       rw [hx] at hes
       injection hes with hes
       subst hes
       exact Zua hat hm hz1 hr
      | some k =>
       obtain ⟨b, hb, hx'⟩ := hv.map_inv
       rw [hx] at hes
       obtain ⟨b2, es', c, hb2, hB, hkv, _⟩ := ZhI he hes
       rw [hb] at hb2; injection hb2 with hb2; subst hb2
       rw [hx']
       exact Zub hat hm hz1 hB hkv hr
     | _ => rw [hx] at hes; simp [Zff] at hes
    simp [execOp, ho, key, Result.andThen, Sem.run]
   ·cases h
  ·cases h
 ·cases h
theorem Zl7 {o : Oper} {t : TypeId} {m k x : Operand} (ho : o.op = .mapUpdate t m k x) (hρ : ∀ x, VR ι (ρ x) (ρ' x)) (he : Emb P ι s.h.get w) (h : Ze1 P ρ t m k x s = some (v, s')) :
  Res P ((execOp ρ' o).run P w) s ι w v s' := by
 unfold Ze1 at h
 split at h
 ·rename_i kt et b0 hm hmm
  split at h
  ·rename_i es hes
   obtain ⟨hat, h⟩ := Zo h
   simp only [Bool.and_eq_true] at hat
   split at h
   ·rename_i l hl
    injection h with h
    injection h with h1 h2
    subst h1 h2
    have hk' : ρ' k = ρ k := (hρ k).eq_of_free1 hat.1
    have hx' : ρ' x = ρ x := (hρ x).eq_of_free1 hat.2
    obtain ⟨b, hb, hm'⟩ := (hmm ▸ hρ m).map_inv
    obtain ⟨b2, es', c, hb2, hB, hkv, O, hO⟩ := ZhI he hes
    rw [hb] at hb2; injection hb2 with hb2; subst hb2
    have main : ∃ (es2 : Array MapEntry) (c2 : Nat), (Instr.mapUpdate t (ρ' m) (ρ' k) (ρ' x)).run P w = .ok () { w with heap := w.heap.setIfInBounds b.1 (.map es2 c2) } ∧ kvs l = kvs es2.toList := by
     rw [hm', hk', hx']
     unfold putM at hl
     split at hl
     ·rename_i hf
      obtain ⟨hf, hc⟩ := Zg6 (w := w) hat.1 hkv hf
      injection hl with hl
      subst hl
      refine ⟨es'.push { key := ρ k, val := ρ x, born := c }, c + 1, ?_, by simp [kvs] at hkv ⊢; exact hkv⟩
      simp [Instr.mapUpdate, run_underlying hm, Result.andThen, Go.MapKept.run_getObj_map hB, hc, hf, (Zg5 hB).1]
     ·rename_i r hf
      obtain ⟨hf, hc⟩ := Zg6 (w := w) hat.1 hkv hf
      obtain ⟨hb, hl⟩ := Zo hl
      injection hl with hl
      subst hl
      have hkey : ((es'[r.1]?).map (·.key)).getD (ρ k) = ((es[r.1]?).map (·.key)).getD (ρ k) := by
       have := Ztq hkv r.1
       rw [show es'.toList[r.1]? = es'[r.1]? from by simp] at this
       have h2 := congrArg (Option.map (·.1)) this
       simp only [Option.map_map] at h2
       have e : ∀ o : Option MapEntry, o.map ((fun x : Value × Value => x.1) ∘ fun e => (e.key, e.val)) = o.map (·.key) := fun o => by cases o <;> rfl
       rw [e, e] at h2
       rw [h2]
      have hst : (Instr.keyThatStays (((es[r.1]?).map (·.key)).getD (ρ k)) (ρ k)).run P w = .ok (ρ k) w := by
       simp [Instr.keyThatStays, hb, Sem.run]
      refine ⟨es'.modify r.1 fun e => { e with key := ρ k, val := ρ x }, c, ?_, ?_⟩
      ·simp [Instr.mapUpdate, run_underlying hm, Result.andThen, Go.MapKept.run_getObj_map hB, hc, hf, hkey, hst, (Zg5 hB).1]
      ·rw [Array.toList_modify]
       exact ZtX hkv _ (ρ k) (ρ x) _ _ (fun e => ⟨rfl, rfl⟩) (fun e => ⟨rfl, rfl⟩)
     ·cases hl
    obtain ⟨es2, c2, hrun, hkv2⟩ := main
    obtain ⟨_, q1, q2, q3⟩ := Zg5 (P := P) (o := .map es2 c2) hB
    refine ⟨.skip, { w with heap := w.heap.setIfInBounds b.1 (.map es2 c2) }, ι, undef, ?_, .inr ⟨rfl, rfl⟩, ?_, Dom.refl, VR.of_free rfl⟩
    ·simp [execOp, ho, hrun, Result.andThen, Sem.run]
    ·show Step P ι s.h.get w ι (s.h.set b0 (some (.ro (.map l.toArray 0) true))).get _
     rw [Tr.get_set]
     exact Step.storeM he hO hb (.inl ⟨_, _, es2, c2, rfl, q1, by simpa using hkv2⟩) q2 q3 rfl rfl rfl
   ·cases h
  ·cases h
 ·cases h
theorem ZpS : ∀ {es es' : List MapEntry} (h : kvs es = kvs es') (i : Nat), kvs (es.eraseIdx i) = kvs (es'.eraseIdx i)
 | [], [], _, _ => rfl
 | [], _ :: _, h, _ => by simp [kvs] at h
 | _ :: _, [], h, _ => by simp [kvs] at h
 | e :: es, e' :: es', h, 0 => by
  simp only [kvs, List.map_cons, List.cons.injEq] at h
  exact h.2
 | e :: es, e' :: es', h, i + 1 => by
  simp only [kvs, List.map_cons, List.cons.injEq] at h
  have := ZpS h.2 i
  simp only [kvs] at this
  simp only [List.eraseIdx_cons_succ, kvs, List.map_cons, h.1, this]
theorem Zrj {t t2 ty : TypeId} {x x' k k' : Value} (hx : VR ι x x') (hk : VR ι k k') (he : Emb P ι s.h.get w) (h : ZiQ P s t x k = some (v, s')) :
  ∃ w', (Builtin.delete_ #[t, t2] ty #[x', k']).run P w = .ok (.tuple #[]) w' ∧ Step P ι s.h.get w ι s'.h.get w' ∧ s'.n = s.n ∧ v = .tuple #[] := by
 unfold ZiQ at h
 split at h
 ·rename_i kt et b0 hm
  split at h
  ·rename_i es hes
   obtain ⟨hkf, h⟩ := Zo h
   have hk' : k' = k := hk.eq_of_free1 hkf
   obtain ⟨b, hb, hx'⟩ := hx.map_inv
   obtain ⟨b2, es', c, hb2, hB, hkv, O, hO⟩ := ZhI he hes
   rw [hb] at hb2; injection hb2 with hb2; subst hb2
   split at h
   ·rename_i r hf
    obtain ⟨hf, hc⟩ := Zg6 (w := w) hkf hkv hf
    injection h with h
    injection h with h1 h2
    subst h1 h2
    obtain ⟨q0, q1, q2, q3⟩ := Zg5 (P := P) (o := .map (es'.eraseIdxIfInBounds r.1) c) hB
    refine ⟨{ w with heap := w.heap.setIfInBounds b.1 (.map (es'.eraseIdxIfInBounds r.1) c) }, ?_, ?_, rfl, rfl⟩
    ·rw [hx', hk']
     simp [Builtin.delete_, run_underlying hm, Result.andThen, Sem.run, Go.MapKept.run_getObj_map hB, hc, hf, q0]
    ·show Step P ι s.h.get w ι (s.h.set b0 (some (.ro (.map (es.eraseIdx r.1).toArray 0) true))).get _
     rw [Tr.get_set]
     refine Step.storeM he hO hb (.inl ⟨_, _, _, c, rfl, q1, ?_⟩) q2 q3 rfl rfl rfl
     have : (es'.eraseIdxIfInBounds r.1).toList = es'.toList.eraseIdx r.1 := by
      unfold Array.eraseIdxIfInBounds
      split
      ·rw [Array.toList_eraseIdx]
      ·rename_i hi
       rw [List.eraseIdx_of_length_le (by simpa using hi)]
     rw [this]
     simpa using ZpS hkv r.1
   ·rename_i hf
    obtain ⟨hf, hc⟩ := Zg6 (w := w) hkf hkv hf
    injection h with h
    injection h with h1 h2
    subst h1 h2
    obtain ⟨q0, q1, q2, q3⟩ := Zg5 (P := P) (o := .map es' c) hB
    refine ⟨{ w with heap := w.heap.setIfInBounds b.1 (.map es' c) }, ?_, ?_, rfl, rfl⟩
    ·rw [hx', hk']
     simp [Builtin.delete_, run_underlying hm, Result.andThen, Sem.run, Go.MapKept.run_getObj_map hB, hc, hf, q0]
    ·show Step P ι s.h.get w ι (s.h.set b0 (some (.ro (.map es.toArray 0) true))).get _
     rw [Tr.get_set]
     exact Step.storeM he hO hb (.inl ⟨_, _, _, c, rfl, q1, by simpa using hkv⟩) q2 q3 rfl rfl rfl
   ·cases h
  ·cases h
 ·cases h
theorem Zrk {t kt et ty : TypeId} {b0 : Nat} {x' : Value} {es : List MapEntry} (hm : P.underlying t = some (.map kt et)) (hx : VR ι (.map (some b0)) x') (he : Emb P ι s.h.get w) (hes : Zff s (.map (some b0)) = some es) : (Builtin.len_ #[t] ty #[x']).run P w = .ok (goInt es.length) w := by
 obtain ⟨b, hb, hx'⟩ := hx.map_inv
 obtain ⟨b2, es', c, hb2, hB, hkv, O, hO⟩ := ZhI he hes
 rw [hb] at hb2; injection hb2 with hb2; subst hb2
 have hl : es.length = es'.size := by
  have := congrArg List.length hkv
  simpa [kvs] using this
 rw [hx']
 simp [Builtin.len_, run_underlying hm, Result.andThen, Sem.run, Go.MapKept.run_getObj_map hB, hl]
theorem ZsK {o : Oper} {t : TypeId} {x : Operand} (ho : o.op = .range t x) (hρ : ∀ x, VR ι (ρ x) (ρ' x)) (he : Emb P ι s.h.get w) (hf : Fresh ι s.n s'.n) (h : Zkc P ρ t x s = some (v, s')) :
  Res P ((execOp ρ' o).run P w) s ι w v s' := by
 unfold Zkc at h
 split at h
 ·rename_i b hu hx
  injection h with h
  injection h with h1 h2
  subst h1 h2
  have hx' : ρ' x = .string b := (hx ▸ hρ x).eq_of_atom rfl
  have st := Step.allocM he (Nat.lt_of_lt_of_le (Nat.lt_succ_self _) hf.1) (hf.2 s.n (Nat.le_refl _) (Nat.lt_succ_self _)) (O := .stringIter b 0) (O' := .stringIter b 0) (.inr ⟨_, _, rfl, rfl⟩) 0
  refine ⟨.value (.pointer (some ⟨w.heap.size, 0, none⟩)), w.alloc (.stringIter b 0), upd ι s.n (some (w.heap.size, 0)), .pointer (some ⟨w.heap.size, 0, none⟩), ?_, .inl rfl, ?_, Dom.one, .ptr (b := (w.heap.size, 0)) Zr⟩
  ·simp [execOp, ho, Instr.range, run_underlying hu, hx', newObj, Result.andThen, Sem.run]
  ·show Step P ι s.h.get w _ (s.h.set s.n (some (.ro (.stringIter b 0) true))).get _
   rw [Tr.get_set]
   exact st
 ·cases h
theorem Zuc {o : Oper} {it : Operand} {q : Bool} (ho : o.op = .next it q) (hρ : ∀ x, VR ι (ρ x) (ρ' x)) (he : Emb P ι s.h.get w) (h : Zlx ρ it q s = some (v, s')) :
  Res P ((execOp ρ' o).run P w) s ι w v s' := by
 unfold Zlx at h
 split at h
 ·rename_i k hx
  split at h
  ·rename_i b p hk
   obtain ⟨q0, hq, hR⟩ := he.ro k _ hk
   have hB : w.heap[q0.1]? = some (.stringIter b p) := by
    rcases hR with ⟨_, _, _, _, e, _⟩ | ⟨_, _, _, e⟩
    ·cases e
    ·exact e
   obtain ⟨q1, hq1, hit⟩ := (hx ▸ hρ it).ptr_inv
   rw [hq] at hq1; injection hq1 with hq1; subst hq1
   split at h
   ·rename_i hlt
    injection h with h
    injection h with h1 h2
    subst h1 h2
    refine ⟨.value (.tuple #[.bool true, goInt p, .int .i32 (Utf8.decode b p).1]), { w with heap := w.heap.setIfInBounds q0.1 (.stringIter b (p + (Utf8.decode b p).2)) }, ι, .tuple #[.bool true, goInt p, .int .i32 (Utf8.decode b p).1], ?_, .inl rfl, ?_, Dom.refl, VR.of_free rfl⟩
    ·simp [execOp, ho, Instr.next, hit, Sem.run, Result.andThen, getObj, setObj, hB, hlt]
    ·show Step P ι s.h.get w ι (s.h.set k (some (.ro (.stringIter b (p + (Utf8.decode b p).2)) true))).get _
     rw [Tr.get_set]
     have hl : q0.1 < w.heap.size := (Array.getElem?_eq_some_iff.1 hB).1
     exact Step.storeM he hk hq (.inr ⟨_, _, rfl, by simp [hl]⟩) (fun i hi => by simp [Array.getElem?_setIfInBounds, Ne.symm hi]) (by simp) rfl rfl rfl
   ·rename_i hlt
    injection h with h
    injection h with h1 h2
    subst h1 h2
    refine Res.same he (v' := .tuple #[.bool false]) ?_ (VR.of_free rfl)
    simp [execOp, ho, Instr.next, hit, Sem.run, Result.andThen, getObj, hB, hlt]
  ·cases h
 ·cases h
theorem Zqy {o : Oper} {t : TypeId} {r : Option Operand} (ho : o.op = .makeMap t r) (hρ : ∀ x, VR ι (ρ x) (ρ' x)) (he : Emb P ι s.h.get w) (hf : Fresh ι s.n s'.n) (h : ZhF P ρ t r s = some (v, s')) :
  Res P ((execOp ρ' o).run P w) s ι w v s' := by
 have main : ∀ (hr : (Instr.makeMap t (r.map ρ')).run P w = .ok (.map (some w.heap.size)) (w.alloc (.map #[] 0))) (_ : v = .map (some s.n)) (_ : s' = s.addM (.map #[] 0)), Res P ((execOp ρ' o).run P w) s ι w v s' := by
  rintro hr rfl rfl
  have st := Step.allocM he (Nat.lt_of_lt_of_le (Nat.lt_succ_self _) hf.1) (hf.2 s.n (Nat.le_refl _) (Nat.lt_succ_self _)) (O := .map #[] 0) (O' := .map #[] 0) (.inl ⟨_, _, _, _, rfl, rfl, rfl⟩) 0
  refine ⟨.value (.map (some w.heap.size)), w.alloc (.map #[] 0), upd ι s.n (some (w.heap.size, 0)), .map (some w.heap.size), ?_, .inl rfl, ?_, Dom.one, .map (b := (w.heap.size, 0)) Zr⟩
  ·simp [execOp, ho, hr, Result.andThen, Sem.run]
  ·show Step P ι s.h.get w _ (s.h.set s.n (some (.ro (.map #[] 0) true))).get _
   rw [Tr.get_set]
   exact st
 unfold ZhF at h
 split at h
 ·injection h with h
  injection h with h1 h2
  exact main (by simp [Instr.makeMap, newObj, Result.andThen, Sem.run]) h1.symm h2.symm
 ·rename_i x
  split at h
  ·rename_i kt et kk n hm hx
   injection h with h
   injection h with h1 h2
   have := (hx ▸ hρ x).int_inv
   exact main (by simp [Instr.makeMap, newObj, Result.andThen, Sem.run, run_underlying hm, this, asInt, asIntOf]) h1.symm h2.symm
  ·cases h
theorem ZsL {t ty : TypeId} {x x' : Value} (hx : VR ι x x') (he : Emb P ι s.h.get w) (h : Zkd P s t x = some (v, s')) :
  ∃ w', (Builtin.clear_ #[t] ty #[x']).run P w = .ok (.tuple #[]) w' ∧ Step P ι s.h.get w ι s'.h.get w' ∧ s'.n = s.n ∧ v = .tuple #[] := by
 unfold Zkd at h
 split at h
 ·rename_i kt et hm
  injection h with h
  injection h with h1 h2
  subst h1 h2
  refine ⟨w, ?_, Step.refl he, rfl, rfl⟩
  rw [hx.map_none]
  simp [Builtin.clear_, run_underlying hm, Result.andThen, Sem.run]
 ·rename_i kt et b0 hm
  split at h
  ·rename_i es hes
   injection h with h
   injection h with h1 h2
   subst h1 h2
   obtain ⟨b, hb, hx'⟩ := hx.map_inv
   obtain ⟨b2, es', c, hb2, hB, hkv, O, hO⟩ := ZhI he hes
   rw [hb] at hb2; injection hb2 with hb2; subst hb2
   obtain ⟨q0, q1, q2, q3⟩ := Zg5 (P := P) (o := .map #[] c) hB
   refine ⟨{ w with heap := w.heap.setIfInBounds b.1 (.map #[] c) }, ?_, ?_, rfl, rfl⟩
   ·rw [hx']
    simp [Builtin.clear_, run_underlying hm, Result.andThen, Sem.run, Go.MapKept.run_getObj_map hB, q0]
   ·show Step P ι s.h.get w ι (s.h.set b0 (some (.ro (.map #[] 0) true))).get _
    rw [Tr.get_set]
    exact Step.storeM he hO hb (.inl ⟨_, _, #[], c, rfl, q1, rfl⟩) q2 q3 rfl rfl rfl
  ·cases h
 ·cases h
theorem ZsM {kt : TypeId} {q : IntKind} (hk : P.underlying kt = some (.int q)) {k : Value} {es : List MapEntry} {r : Option Value} (h : ZqA q k es = some r) : ∃ a, Zby P kt k es = some a ∧ a.map (·.2) = r := by
 unfold ZqA at h
 unfold Zby
 rw [hk]
 split at h
 ·rename_i a ha
  injection h with h
  subst h
  exact ⟨some a, ha, rfl⟩
 ·rename_i ha
  injection h with h
  subst h
  exact ⟨none, ha, rfl⟩
 ·cases h
theorem Zvk {kt : TypeId} {q : IntKind} (hk : P.underlying kt = some (.int q)) {k x : Value} {es l : List MapEntry} (h : ZtR q k x es = some l) : putM P kt k x es = some l := by
 have hf : Zby P kt k es = Instr.findNow (.int q) k es 0 := by unfold Zby; rw [hk]
 unfold ZtR at h
 unfold putM
 rw [hf]
 split at h
 ·rename_i ha
  first | exact h | (rw [ha]; exact h)
 ·rename_i r ha
  obtain ⟨e, g1, g2, _, j, n, g3⟩ := ZpR _ _ _ ha
  have hkey : ((es[r.1]?).map (·.key)).getD k = k := by
   have : es[r.1]? = some e := by simpa using g1
   rw [this]
   exact g2
  first | rw [ha] | skip
  show (bif Instr.sameBits 10000 (((es[r.1]?).map (·.key)).getD k) k then _ else none) = _
  rw [hkey, g3]
  simp only [Instr.sameBits, beq_self_eq_true, Bool.and_self, cond_true]
  rw [← g3]
  exact h
 ·cases h
theorem Zud {t : TypeId} {x ix : Operand} {ok : Bool} {r : Option Value} (hob : ∀ p ∈ s'.ob, p.1 = p.2) (h : ZhD P ρ t x ix ok r s = some (v, s')) : ∃ s1, Ze0 P ρ t x ix ok s = some (v, s1) ∧ s'.h = s1.h ∧ s'.n = s1.n := by
 unfold ZhD at h
 split at h
 ·rename_i kt et hm
  split at h
  ·rename_i q z es hk hz hes
   obtain ⟨hat, h⟩ := Zo h
   simp only [Bool.and_eq_true] at hat
   injection h with h
   injection h with h1 h2
   subst h1 h2
   have := ZU.1 (hob _ (List.mem_cons_self (a := (dP (ZqA q (ρ ix) es = some r), true))))
   obtain ⟨a, ha, rfl⟩ := ZsM hk this
   refine ⟨s, ?_, rfl, rfl⟩
   have hf1 : ZaN (ρ ix) = true := by
    have := hat.1
    cases hx : ρ ix <;> rw [hx] at this <;> first | exact this | (simp [atom] at this)
   simp only [Ze0, hm, hz, hes, hf1, ha, hat.2, cond_true]
  ·rename_i fs z es hk hz hes
   obtain ⟨hat, h⟩ := Zo h
   simp only [Bool.and_eq_true] at hat
   injection h with h
   injection h with h1 h2
   subst h1 h2
   have := ZU.1 (hob _ (List.mem_cons_self (a := (dP ((Zby P kt (ρ ix) es).map (Option.map Prod.snd) = some r), true))))
   obtain ⟨a, ha, rfl⟩ := Option.map_eq_some_iff.1 this
   refine ⟨s, ?_, rfl, rfl⟩
   have hf2 : ZiP (a.map (·.2)) = true := hat.2
   simp only [Ze0, hm, hz, hes, hat.1, ha, hf2, cond_true]
  ·rename_i z es hk hz hes
   obtain ⟨hat, h⟩ := Zo h
   simp only [Bool.and_eq_true] at hat
   injection h with h
   injection h with h1 h2
   subst h1 h2
   have := ZU.1 (hob _ (List.mem_cons_self (a := (dP ((Zby P kt (ρ ix) es).map (Option.map Prod.snd) = some r), true))))
   obtain ⟨a, ha, rfl⟩ := Option.map_eq_some_iff.1 this
   refine ⟨s, ?_, rfl, rfl⟩
   have hf2 : ZiP (a.map (·.2)) = true := hat.2
   simp only [Ze0, hm, hz, hes, hat.1, ha, hf2, cond_true]
  ·cases h
 ·cases h
theorem Zue {t : TypeId} {m k x : Operand} {l : List MapEntry} (hob : ∀ p ∈ s'.ob, p.1 = p.2) (h : ZhE P ρ t m k x l s = some (v, s')) : ∃ s1, Ze1 P ρ t m k x s = some (v, s1) ∧ s'.h = s1.h ∧ s'.n = s1.n := by
 unfold ZhE at h
 split at h
 ·rename_i kt et b hm hmm
  split at h
  ·rename_i q es hk hes
   obtain ⟨hat, h⟩ := Zo h
   injection h with h
   injection h with h1 h2
   subst h1 h2
   have := ZU.1 (hob _ (List.mem_cons_self (a := (dP (ZtR q (ρ k) (ρ x) es = some l), true))))
   refine ⟨s.putM b (.map l.toArray 0), ?_, rfl, rfl⟩
   have hf1 : ZaN (ρ k) = true := by
    have := (Bool.and_eq_true_iff.1 hat).1
    cases hx : ρ k <;> rw [hx] at this <;> first | exact this | (simp [atom] at this)
   simp only [Ze1, hm, hmm, hes, hf1, (Bool.and_eq_true_iff.1 hat).2, Bool.and_self, Zvk hk this, cond_true]
  ·rename_i fs es hk hes
   obtain ⟨hat, h⟩ := Zo h
   injection h with h
   injection h with h1 h2
   subst h1 h2
   have := ZU.1 (hob _ (List.mem_cons_self (a := (dP (putM P kt (ρ k) (ρ x) es = some l), true))))
   refine ⟨s.putM b (.map l.toArray 0), ?_, rfl, rfl⟩
   simp only [Ze1, hm, hmm, hes, (Bool.and_eq_true_iff.1 hat).1, (Bool.and_eq_true_iff.1 hat).2, Bool.and_self, this, cond_true]
  ·rename_i es hk hes
   obtain ⟨hat, h⟩ := Zo h
   injection h with h
   injection h with h1 h2
   subst h1 h2
   have := ZU.1 (hob _ (List.mem_cons_self (a := (dP (putM P kt (ρ k) (ρ x) es = some l), true))))
   refine ⟨s.putM b (.map l.toArray 0), ?_, rfl, rfl⟩
   simp only [Ze1, hm, hmm, hes, (Bool.and_eq_true_iff.1 hat).1, (Bool.and_eq_true_iff.1 hat).2, Bool.and_self, this, cond_true]
  ·cases h
 ·cases h
end
end Ev
end Go.Proofs.YtlbbiflodemagaaDoor
/- Each operation of the runner against the model's own: all of them together. -/
namespace Go.Proofs.YtlbbiflodemagaaDoor
open Go.RowKit
namespace Ev
section
variable {P : Program} {ι : Ren} {w : World} {ρ ρ' : Operand → Value} {s s' : St} {v : Value}

theorem ZhJ {o : Oper} {op : BinOp} {t : TypeId} {x y : Operand} {yt : TypeId} (ho : o.op = .binOp op t x y yt) (hρ : ∀ x, VR ι (ρ x) (ρ' x)) (he : Emb P ι s.h.get w) (h : Zh6 P ρ o op t x y s = some (v, s')) :
  s' = s ∧ Res P ((execOp ρ' o).run P w) s ι w v s' := by
 have hs : ∀ cs b, o.op ≠ .select cs b := fun cs b e => by rw [ho] at e; cases e
 unfold Zh6 at h
 split at h
 ·rename_i q hq
  injection h with h
  injection h with h1 h2
  subst h1 h2
  obtain ⟨xs, ys, hx', hy', hg, hr⟩ := Zj4 (w := w) (hρ x) (hρ y) hq
  have g := ZpQ (P := P) (w := w) (op := .eql) (t := t) (x := x) (y := y) (xs := xs) (ys := ys) hg
  rw [hx', hy'] at hr
  exact ⟨rfl, Res.same he (v' := .bool q) (by simp [execOp, ho, hx', hy', g, (Ztp hr).1, Result.andThen, Sem.run]) (.atom rfl)⟩
 ·rename_i q hq
  injection h with h
  injection h with h1 h2
  subst h1 h2
  obtain ⟨xs, ys, hx', hy', hg, hr⟩ := Zj4 (w := w) (hρ x) (hρ y) hq
  have g := ZpQ (P := P) (w := w) (op := .neq) (t := t) (x := x) (y := y) (xs := xs) (ys := ys) hg
  rw [hx', hy'] at hr
  exact ⟨rfl, Res.same he (v' := .bool (!q)) (by simp [execOp, ho, hx', hy', g, (Ztp hr).2, Result.andThen, Sem.run]) (.atom rfl)⟩
 split at h
 ·rename_i r hr
  injection h with h
  subst h
  exact Zbo hs hρ he hr
 ·split at h
  ·rename_i q hq _ _
   injection h with h
   injection h with h1 h2
   subst h1 h2
   obtain ⟨k1, k2⟩ := ZmS hq
   have e1 := Zvh (w := w) (Zhr (hρ x) k1) (Zhr (hρ y) k2) (Zl4 he (hρ x) (hρ y) hq)
   have g := ZnT (P := P) (w := w) (op := .eql) (t := t) (x := x) (y := y) (b := ρ' y) (Zhr (hρ x) k1)
   exact ⟨rfl, Res.same he (v' := .bool q) (by simp [execOp, ho, g, e1, Result.andThen, Sem.run]) (.atom rfl)⟩
  ·rename_i q hq _ _
   injection h with h
   injection h with h1 h2
   subst h1 h2
   obtain ⟨k1, k2⟩ := ZmS hq
   have e1 := Zvi (w := w) (Zhr (hρ x) k1) (Zhr (hρ y) k2) (Zl4 he (hρ x) (hρ y) hq)
   have g := ZnT (P := P) (w := w) (op := .neq) (t := t) (x := x) (y := y) (b := ρ' y) (Zhr (hρ x) k1)
   exact ⟨rfl, Res.same he (v' := .bool (!q)) (by simp [execOp, ho, g, e1, Result.andThen, Sem.run]) (.atom rfl)⟩
  ·cases h
theorem Zuf {o : Oper} {t : TypeId} {x y : Operand} {yt : TypeId} (ho : o.op = .binOp .rem t x y yt) (hρ : ∀ x, VR ι (ρ x) (ρ' x)) (he : Emb P ι s.h.get w) (hob : ∀ p ∈ s'.ob, p.1 = p.2) (h : Zlu ρ x y s = some (v, s')) :
  s'.h = s.h ∧ s'.n = s.n ∧ Res P ((execOp ρ' o).run P w) s ι w v s := by
 unfold Zlu at h
 split at h
 ·rename_i k a k' b hx hy
  injection h with h
  injection h with h1 h2
  subst h1 h2
  obtain ⟨hk, hb⟩ := ZU.1 (hob (dP (k = k' ∧ b ≠ 0), true) (by simp [St.told]))
  subst hk
  have hx' : ρ' x = .int k a := by have := hρ x; rw [hx] at this; exact this.eq_of_atom rfl
  have hy' : ρ' y = .int k b := by have := hρ y; rw [hy] at this; exact this.eq_of_atom rfl
  have g : (eqGuard .rem t x y (.int k a) (.int k b)).run P w = .ok () w := rfl
  have e1 : (binOp .rem t (.int k a) (.int k b)).run P w = .ok (.int k (Int.tmod a b)) w := by
   simp [binOp, Op.intDiv, hb, Sem.run]
  exact ⟨rfl, rfl, Res.same he (v' := .int k (Int.tmod a b)) (by simp [execOp, ho, hx', hy', g, e1, Result.andThen, Sem.run]) (.atom rfl)⟩
 ·cases h
theorem ZpT {o : Oper} {op : BinOp} {n : Nat} {t : TypeId} {x y : Operand} {yt : TypeId} (ho : o.op = .binOp op t x y yt) (hρ : ∀ x, VR ι (ρ x) (ρ' x)) (he : Emb P ι s.h.get w) (hob : ∀ p ∈ s'.ob, p.1 = p.2) (h : Zmo ρ op x y n s = some (v, s')) :
  s'.h = s.h ∧ s'.n = s.n ∧ Res P ((execOp ρ' o).run P w) s ι w v s := by
 unfold Zmo at h
 split at h
 ·rename_i k a k' b hx hy
  injection h with h
  injection h with h1 h2
  subst h1 h2
  obtain ⟨hb, hn⟩ := ZU.1 (hob (dP (b = Int.ofNat n ∧ n ≤ k.bits), true) (by simp [St.told]))
  have hx' : ρ' x = .int k a := by have := hρ x; rw [hx] at this; exact this.eq_of_atom rfl
  have hy' : ρ' y = .int k' b := by have := hρ y; rw [hy] at this; exact this.eq_of_atom rfl
  have g : (eqGuard .shl t x y (.int k a) (.int k' b)).run P w = .ok () w := rfl
  have e1 : (binOp .shl t (.int k a) (.int k' b)).run P w = .ok (.int k (k.wrap (a * 2 ^ n))) w := by
   subst hb
   show (Op.shift .shl k a k' (Int.ofNat n)).run P w = _
   have hm : min n k.bits = n := by omega
   have h0 : ¬ ((n : Int) < 0) := by omega
   simp [Op.shift, Sem.run, hm, h0]
  exact ⟨rfl, rfl, Res.same he (v' := .int k (k.wrap (a * 2 ^ n))) (by simp [execOp, ho, hx', hy', g, e1, Result.andThen, Sem.run]) (.atom rfl)⟩
 ·rename_i k a k' b hx hy
  injection h with h
  injection h with h1 h2
  subst h1 h2
  obtain ⟨hb, hn⟩ := ZU.1 (hob (dP (b = Int.ofNat n ∧ n ≤ k.bits), true) (by simp [St.told]))
  have hx' : ρ' x = .int k a := by have := hρ x; rw [hx] at this; exact this.eq_of_atom rfl
  have hy' : ρ' y = .int k' b := by have := hρ y; rw [hy] at this; exact this.eq_of_atom rfl
  have g : (eqGuard .shr t x y (.int k a) (.int k' b)).run P w = .ok () w := rfl
  have e1 : (binOp .shr t (.int k a) (.int k' b)).run P w = .ok (.int k (a / 2 ^ n)) w := by
   subst hb
   show (Op.shift .shr k a k' (Int.ofNat n)).run P w = _
   have hm : min n k.bits = n := by omega
   have h0 : ¬ ((n : Int) < 0) := by omega
   have hp : (0 : Int) ≤ 2 ^ n := Int.pow_nonneg (by decide)
   simp [Op.shift, Sem.run, hm, h0, Int.fdiv_eq_ediv_of_nonneg _ hp]
  exact ⟨rfl, rfl, Res.same he (v' := .int k (a / 2 ^ n)) (by simp [execOp, ho, hx', hy', g, e1, Result.andThen, Sem.run]) (.atom rfl)⟩
 ·cases h
theorem Zvl {o : Oper} {t : TypeId} {x y : Operand} {yt : TypeId} (ho : o.op = .binOp .add t x y yt) (hρ : ∀ x, VR ι (ρ x) (ρ' x)) (he : Emb P ι s.h.get w) (hob : ∀ p ∈ s'.ob, p.1 = p.2) (h : ZnM ρ x y s = some (v, s')) :
  s'.h = s.h ∧ s'.n = s.n ∧ Res P ((execOp ρ' o).run P w) s ι w v s := by
 unfold ZnM at h
 split at h
 ·rename_i a b hx hy
  injection h with h
  injection h with h1 h2
  subst h1 h2
  have hs := ZU.1 (hob (dP (((a.size + b.size : Nat) : Int) ≤ IntKind.i64.max), true) (by simp [St.told]))
  have hx' : ρ' x = .string a := by have := hρ x; rw [hx] at this; exact this.eq_of_atom rfl
  have hy' : ρ' y = .string b := by have := hρ y; rw [hy] at this; exact this.eq_of_atom rfl
  have g : (eqGuard .add t x y (.string a) (.string b)).run P w = .ok () w := rfl
  have e1 : (binOp .add t (.string a) (.string b)).run P w = .ok (.string (a ++ b)) w := by
   show (Op.stringOp .add a b).run P w = _
   simp only [Op.stringOp]
   rw [if_neg (by omega)]
   simp [Sem.run]
  exact ⟨rfl, rfl, Res.same he (v' := .string (a ++ b)) (by simp [execOp, ho, hx', hy', g, e1, Result.andThen, Sem.run]) (.atom rfl)⟩
 ·cases h
theorem Zki (hρ : ∀ x, VR ι (ρ x) (ρ' x)) (a : Array Operand) : VRs ι (a.map ρ) (a.map ρ') := by
 refine ⟨by simp, fun i x y hx hy => ?_⟩
 simp only [Array.getElem?_map] at hx hy
 cases hi : a[i]? with
 | none => rw [hi] at hx; cases hx
 | some z => rw [hi] at hx hy; injection hx with hx; injection hy with hy; subst hx hy; exact hρ z
theorem Zqz {o : Oper} {c : Call} {b : Builtin} (ho : o.op = .call c) (hc : c.callee = .builtin b) (hρ : ∀ x, VR ι (ρ x) (ρ' x)) (he : Emb P ι s.h.get w) (hf : Fresh ι s.n s'.n) (hob : ∀ p ∈ s'.ob, p.1 = p.2) (h : ZhG P ρ o c b s = some (v, s')) :
  Res P ((execOp ρ' o).run P w) s ι w v s' := by
 have hs : ∀ cs b, o.op ≠ .select cs b := fun cs b e => by rw [ho] at e; cases e
 obtain ⟨cs, hrun⟩ : ∃ cs, (execOp ρ' o).run P w = (builtin b c.argTypes o.type cs (c.args.map ρ')).run P w := ⟨_, by
  simp [execOp, ho, resolve, hc, invoke, Result.andThen, Sem.run]
  rfl⟩
 unfold ZhG at h
 split at h
 ·split at h
  ·rename_i t tx x y ht hx
   obtain ⟨v', w', ι', hr, h1, h2, h3⟩ : ∃ v' w' ι', (Builtin.append_ #[t, tx] o.type #[ρ' x, ρ' y]).run P w = .ok v' w' ∧ Step P ι s.h.get w ι' s'.h.get w' ∧ Dom ι ι' s.n s'.n ∧ VR ι' v v' := by
    split at h
    ·rename_i s1 hw
     obtain ⟨e1, e2, _⟩ := ZR hw
     obtain ⟨s2, h4, e3, e4⟩ := ZtV hob h
     have := ZfG (ty := o.type) (hρ x) (hρ y) (e1 ▸ he) (e2 ▸ e4 ▸ hf) h4
     rw [e3, e4, ← e1, ← e2]
     exact this
    ·rename_i s1 hw
     obtain ⟨e1, e2, _⟩ := ZR hw
     obtain ⟨s2, h4, e3, e4⟩ := ZsH hob h
     have := ZfG (ty := o.type) (hρ x) (hρ y) (e1 ▸ he) (e2 ▸ e4 ▸ hf) h4
     rw [e3, e4, ← e1, ← e2]
     exact this
    ·rename_i s1 hw
     obtain ⟨e1, e2, _⟩ := ZR hw
     obtain ⟨s2, h4, e3, e4⟩ := ZsI hob h
     have := ZfG (ty := o.type) (hρ x) (hρ y) (e1 ▸ he) (e2 ▸ e4 ▸ hf) h4
     rw [e3, e4, ← e1, ← e2]
     exact this
    ·cases h
    ·rename_i s1 hw
     obtain ⟨e1, e2, _⟩ := ZR hw
     have := ZfG (ty := o.type) (hρ x) (hρ y) (e1 ▸ he) (e2 ▸ hf) h
     rw [← e1, ← e2]
     exact this
   refine ⟨.value v', w', ι', v', ?_, .inl rfl, h1, h2, h3⟩
   have e1 : c.argTypes = #[t, tx] := by rw [← Array.toArray_toList (xs := c.argTypes), ht]
   have e2 : c.args.map ρ' = #[ρ' x, ρ' y] := by rw [← Array.toArray_toList (xs := c.args), hx]; simp
   rw [hrun, e1, e2]
   simp [builtin, hr, Result.andThen, Sem.run]
  ·cases h
 ·split at h
  ·rename_i t x ht hx
   split at h
   ·rename_i e a n k hu hxx
    injection h with h
    injection h with h1 h2
    subst h1 h2
    have e1 : c.argTypes = #[t] := by rw [← Array.toArray_toList (xs := c.argTypes), ht]
    have e2 : c.args.map ρ' = #[ρ' x] := by rw [← Array.toArray_toList (xs := c.args), hx]; simp
    have hv := hxx ▸ hρ x
    have hl : ∃ a' c', ρ' x = .slice a' n c' := by
     generalize ρ' x = x' at hv
     cases hv with
     | atom h => simp [Ev.atom] at h
     | slice => exact ⟨_, _, rfl⟩
     | slice0 => exact ⟨_, _, rfl⟩
     | mslice => exact ⟨_, _, rfl⟩
    obtain ⟨a', c', hl⟩ := hl
    refine Res.same he (v' := goInt n) ?_ (.atom rfl)
    rw [hrun, e1, e2, hl]
    simp [builtin, Builtin.len_, run_underlying hu, Result.andThen, Sem.run]
   ·rename_i kt et b0 hu hxx
    split at h
    ·rename_i es hes
     injection h with h
     injection h with h1 h2
     subst h1 h2
     have e1 : c.argTypes = #[t] := by rw [← Array.toArray_toList (xs := c.argTypes), ht]
     have e2 : c.args.map ρ' = #[ρ' x] := by rw [← Array.toArray_toList (xs := c.args), hx]; simp
     refine Res.same he (v' := goInt es.length) ?_ (.atom rfl)
     rw [hrun, e1, e2]
     simp [builtin, Zrk (ty := o.type) hu (hxx ▸ hρ x) he hes, Result.andThen, Sem.run]
    ·cases h
   ·exact (Zbo hs hρ he h).2
  ·cases h
 ·split at h
  ·rename_i t t2 x k ht hx
   have e1 : c.argTypes = #[t, t2] := by rw [← Array.toArray_toList (xs := c.argTypes), ht]
   have e2 : c.args.map ρ' = #[ρ' x, ρ' k] := by rw [← Array.toArray_toList (xs := c.args), hx]; simp
   obtain ⟨w', q1, q2, q3, rfl⟩ := Zrj (t2 := t2) (ty := o.type) (hρ x) (hρ k) he h
   refine ⟨.value (.tuple #[]), w', ι, .tuple #[], ?_, .inl rfl, q2, q3 ▸ Dom.refl, VR.of_free rfl⟩
   rw [hrun, e1, e2]
   simp [builtin, q1, Result.andThen, Sem.run]
  ·cases h
 ·split at h
  ·rename_i t x ht hx
   have e1 : c.argTypes = #[t] := by rw [← Array.toArray_toList (xs := c.argTypes), ht]
   have e2 : c.args.map ρ' = #[ρ' x] := by rw [← Array.toArray_toList (xs := c.args), hx]; simp
   obtain ⟨w', q1, q2, q3, rfl⟩ := ZsL (ty := o.type) (hρ x) he h
   refine ⟨.value (.tuple #[]), w', ι, .tuple #[], ?_, .inl rfl, q2, q3 ▸ Dom.refl, VR.of_free rfl⟩
   rw [hrun, e1, e2]
   simp [builtin, q1, Result.andThen, Sem.run]
  ·cases h
 ·exact (Zbo hs hρ he h).2
theorem ZoR {o : Oper} {x : Operand} (ho : o.op = .nilCheck x) (hρ : ∀ x, VR ι (ρ x) (ρ' x)) (he : Emb P ι s.h.get w) (h : (match ρ x with
  | .pointer (some a) => some ((.pointer (some a) : Value), s)
  | .func (.func f) a b => some (.func (.func f) a b, s)
  | _ => none) = some (v, s')) : s' = s ∧ Res P ((execOp ρ' o).run P w) s ι w v s' := by
 split at h
 ·rename_i a hx
  injection h with h
  injection h with h1 h2
  subst h1 h2
  have hv := hx ▸ hρ x
  refine ⟨rfl, Res.same he (v' := ρ' x) ?_ hv⟩
  have : ∃ a', ρ' x = .pointer (some a') := by
   generalize ρ' x = x' at hv
   cases hv with
   | atom h => simp [Ev.atom] at h
   | ptr h => exact ⟨_, rfl⟩
   | mptr h => exact ⟨_, rfl⟩
  obtain ⟨a', hx'⟩ := this
  simp [execOp, ho, hx', Sem.run]
 ·rename_i f a b hx
  injection h with h
  injection h with h1 h2
  subst h1 h2
  have hv := hx ▸ hρ x
  refine ⟨rfl, Res.same he (v' := ρ' x) ?_ hv⟩
  have : ∃ a' b', ρ' x = .func (.func f) a' b' := by
   generalize ρ' x = x' at hv
   cases hv with
   | atom h => exact ⟨_, _, rfl⟩
   | func => exact ⟨_, _, rfl⟩
  obtain ⟨a', b', hx'⟩ := this
  simp [execOp, ho, hx', Sem.run]
 ·cases h
theorem ZiW : ∀ {l : List Value} {ns : List Int}, Zi9 l = some ns → l = ns.map (Value.int .u8)
 | [], ns, h => by simp [Zi9] at h; subst h; rfl
 | x :: l, ns, h => by
  unfold Zi9 at h
  split at h
  ·cases ‹_ :: _ = []›
  ·rename_i n l' hx
   injection hx with h1 h2
   subst h1 h2
   split at h
   ·rename_i r hr
    injection h with h
    subst h
    rw [ZiW hr]
    rfl
   ·cases h
  ·cases h
theorem ZoS {o : Oper} {a b : TypeId} {x : Operand} {ns : List Int} (ho : o.op = .convert a b x) (hρ : ∀ x, VR ι (ρ x) (ρ' x)) (he : Emb P ι s.h.get w) (hob : ∀ p ∈ s'.ob, p.1 = p.2) (h : Zg9 P ρ a b x ns s = some (v, s')) :
  s'.h = s.h ∧ s'.n = s.n ∧ Res P ((execOp ρ' o).run P w) s ι w v s := by
 unfold Zg9 at h
 split at h
 ·rename_i e k o' n c hua hub hx
  split at h
  ·rename_i hue
   injection h with h
   injection h with h1 h2
   subst h1 h2
   have hl := ZU.1 (hob (dP (Zlr s k o' n = some (ns.map (Value.int .u8))), true) (by simp [St.told]))
   obtain ⟨bk, cs, hb, hcl, hll, hcs, hvv⟩ := ZpO he hl
   have hcs' : cs = ns.map (Value.int .u8) := by
    apply List.ext_getElem (by omega)
    intro i h1 h2
    have hq := hvv i (ns.map (Value.int .u8))[i] cs[i] (List.getElem?_eq_getElem h2) (List.getElem?_eq_getElem h1)
    rw [List.getElem_map] at hq ⊢
    exact hq.int_inv
   have hv := hx ▸ hρ x
   have : ∃ a' c', ρ' x = .slice a' n c' ∧ (Conv.bytesToString (.slice a' n c')).run P w = .ok (.string (ns.foldl (fun r n => r.push (UInt8.ofNat n.toNat)) ByteArray.empty)) w := by
    generalize ρ' x = x' at hv
    cases hv with
    | atom h => simp [Ev.atom] at h
    | slice hb2 hn hc hq =>
     rename_i b2 c'
     rw [hb] at hb2; injection hb2 with hb2; subst hb2
     refine ⟨_, _, rfl, ?_⟩
     have := run_loadCells_list (P := P) w ⟨bk.1, o', none⟩ cs hcs
     rw [hcl] at this
     rw [hcs'] at this
     exact run_bytesToString w _ n c' ns this
    | slice0 _h0 =>
     rename_i a'
     have : ns = [] := List.eq_nil_of_length_eq_zero (by simpa using hll)
     subst this
     cases a' with
     | none => exact ⟨none, 0, rfl, rfl⟩
     | some a' => exact ⟨some a', 0, rfl, run_bytesToString w a' 0 0 [] rfl⟩
   obtain ⟨a', c', hx', hrun⟩ := this
   refine ⟨rfl, rfl, Res.same he (v' := .string _) ?_ (.atom rfl)⟩
   simp [execOp, ho, hx', run_convert_bytes_string w a b e a' n c' hua hue hub, hrun, Result.andThen, Sem.run]
  ·cases h
 ·rename_i e id o' z n c hua hub hx
  split at h
  ·rename_i hue
   injection h with h
   injection h with h1 h2
   subst h1 h2
   have hl := ZU.1 (hob (dP (ZaO id o' n = some (ns.map (Cell.k .u8))), true) (by simp [St.told]))
   have hv := hx ▸ hρ x
   have : ∃ a' c', ρ' x = .slice a' n c' ∧ (Conv.bytesToString (.slice a' n c')).run P w = .ok (.string (ns.foldl (fun r n => r.push (UInt8.ofNat n.toNat)) ByteArray.empty)) w := by
    generalize ρ' x = x' at hv
    cases hv with
    | atom h => simp [Ev.atom] at h
    | mslice hb hn hc =>
     rename_i b base c' q
     obtain ⟨cs, hcl, hll, hcs, hvv⟩ := Zl1 (q := 0) he hb hl
     have ecell : Zu (ns.map (Cell.k .u8)) = ns.map (Value.int .u8) := by unfold Zu; rw [List.map_map]; rfl
     have hcs' : cs = ns.map (Value.int .u8) := by
      rw [ecell] at hvv
      rw [List.length_map] at hll
      apply List.ext_getElem (by simp; omega)
      intro i h1 h2
      have hq := hvv i (ns.map (Value.int .u8))[i] cs[i] (List.getElem?_eq_getElem h2) (List.getElem?_eq_getElem h1)
      rw [List.getElem_map] at hq ⊢
      exact hq.int_inv
     refine ⟨_, _, rfl, ?_⟩
     have := run_loadCells_list (P := P) w ⟨b, base + o', none⟩ cs hcs
     rw [hcl] at this
     rw [hcs'] at this
     exact run_bytesToString w _ n c' ns this
    | slice0 _h0 =>
     rename_i a'
     have : ns = [] := by
      unfold ZaO at hl
      split at hl
      ·injection hl with hl
       simpa using hl.symm
      ·cases hl
     subst this
     cases a' with
     | none => exact ⟨none, 0, rfl, rfl⟩
     | some a' => exact ⟨some a', 0, rfl, run_bytesToString w a' 0 0 [] rfl⟩
   obtain ⟨a', c', hx', hrun⟩ := this
   refine ⟨rfl, rfl, Res.same he (v' := .string _) ?_ (.atom rfl)⟩
   simp [execOp, ho, hx', run_convert_bytes_string w a b e a' n c' hua hue hub, hrun, Result.andThen, Sem.run]
  ·cases h
 ·cases h
theorem Zjy {src dst u t : TypeId} {i j : TypeInfo} {w : World} {b : Nat} {C : Array Value} {fr : Nat × Nat} (hs : P.underlying src = some .unsafePointer) (hd : P.underlying dst = some (.pointer u)) (hi : P.info? u = some i) (h0 : 0 < i.size) (hsub : Zwj P t u = true) (hj : P.info? t = some j) (hj0 : 0 < j.size)
  (hB : w.heap[b]? = some (.cells C t fr)) (hC : j.size ≤ C.size) : (convert src dst (.pointer (some ⟨b, 0, none⟩))).run P w = .ok (.pointer (some ⟨b, 0, none⟩)) w := by
 have hsh : w.shape? b = some (t, C.size) := by simp [World.shape?, hB]
 have hc : P.cellsOf t = j.size := by simp [Program.cellsOf, hj]
 have hcu : P.cellsOf u = i.size := by simp [Program.cellsOf, hi]
 have hl : liesAt P P.depth t (C.size / P.cellsOf t) 0 u 1 = true := by
  have hd : P.depth = (2 * (P.types.size + Made.depth) + 1) + 1 := rfl
  rw [hd]
  simp only [liesAt, Bool.or_eq_true]
  left
  rw [hd]
  have h1 : 1 ≤ C.size / j.size := (Nat.le_div_iff_mul_le hj0).2 (by omega)
  have h2 : j.size ≠ 0 := by omega
  have h3 : i.size ≠ 0 := by omega
  unfold Zwj at hsub
  rw [Bool.or_eq_true] at hsub
  rcases hsub with hsub | hsub
  ·obtain rfl := Nat.eq_of_beq_eq_true hsub
   simp [Go.rowAt, hc, sameLayout, h2, h1]
  ·split at hsub
   ·rename_i fs hfs
    rw [Bool.and_eq_true] at hsub
    obtain ⟨hst, hsub⟩ := hsub
    split at hsub
    ·rename_i f hf
     rw [Bool.and_eq_true] at hsub
     have e1 := Nat.eq_of_beq_eq_true hsub.1
     have e2 := Nat.eq_of_beq_eq_true hsub.2
     have hm : f ∈ fs := Array.mem_of_getElem? hf
     have hin : Go.rowAt P (fun x => sameLayout P (2 * (P.types.size + Made.depth) + 1 + 1) x u) (2 * (P.types.size + Made.depth) + 1) u 1 0 1 = true := by
      simp [Go.rowAt, hcu, sameLayout, h3]
     unfold Go.rowAt
     simp only [hc, h2, if_false, Nat.zero_div, Nat.zero_mod, hfs, Bool.or_eq_true, Bool.and_eq_true, decide_eq_true_eq]
     right
     refine ⟨by omega, hst, ?_⟩
     rw [Array.any_eq_true']
     refine ⟨f, hm, ?_⟩
     rw [e1, e2, hcu]
     simp only [Nat.zero_add, Nat.sub_zero, Nat.le_refl, decide_true, Bool.true_and]
     rw [hin]
     simpa using h0
    ·cases hsub
   ·cases hsub
 have hz : i.size ≠ 0 := by omega
 simp [convert, Conv.unsafePointer, Conv.seenAt, viewAt, cellsIn, sizeOf, typeInfo, run_underlying hs, run_underlying hd, hi, hz, hsh, variablesAt, hl, Result.andThen]
theorem Zlj {o : Oper} {a b : TypeId} {x : Operand} (ho : o.op = .convert a b x) (hρ : ∀ x, VR ι (ρ x) (ρ' x)) (he : Emb P ι s.h.get w) (h : Zg3 P ρ a b x s = some (v, s')) :
  s' = s ∧ Res P ((execOp ρ' o).run P w) s ι w v s' := by
 unfold Zg3 at h
 split at h
 ·rename_i e k o' n c hua hub hx
  split at h
  ·rename_i l hue hl
   split at h
   ·rename_i ns hns
    injection h with h
    injection h with h1 h2
    subst h1 h2
    have hbs := ZiW hns
    obtain ⟨bk, cs, hb, hcl, hll, hcs, hvv⟩ := ZiU he hl
    have hcs' : cs = ns.map (Value.int .u8) := by
     rw [← hbs]
     apply List.ext_getElem (by omega)
     intro i h1 h2
     have hq := hvv i l[i] cs[i] (List.getElem?_eq_getElem h2) (List.getElem?_eq_getElem h1)
     have hli : l[i] = .int .u8 (ns[i]'(by rw [hbs] at h2; simpa using h2)) := by simp [hbs]
     rw [hli] at hq ⊢
     exact hq.int_inv
    have hv := hx ▸ hρ x
    have : ∃ a' c', ρ' x = .slice a' n c' ∧ (Conv.bytesToString (.slice a' n c')).run P w = .ok (.string (ns.foldl (fun r n => r.push (UInt8.ofNat n.toNat)) ByteArray.empty)) w := by
     generalize ρ' x = x' at hv
     cases hv with
     | atom h => simp [Ev.atom] at h
     | slice hb2 hn hc hq =>
      rename_i b2 c'
      rw [hb] at hb2; injection hb2 with hb2; subst hb2
      refine ⟨_, _, rfl, ?_⟩
      have := run_loadCells_list (P := P) w ⟨bk.1, o', none⟩ cs hcs
      rw [hcl] at this
      rw [hcs'] at this
      exact run_bytesToString w _ n c' ns this
     | slice0 _h0 =>
      rename_i a'
      have : ns = [] := List.eq_nil_of_length_eq_zero (by rw [hbs] at hll; simpa using hll)
      subst this
      cases a' with
      | none => exact ⟨none, 0, rfl, rfl⟩
      | some a' => exact ⟨some a', 0, rfl, run_bytesToString w a' 0 0 [] rfl⟩
    obtain ⟨a', c', hx', hrun⟩ := this
    refine ⟨rfl, Res.same he (v' := .string _) ?_ (.atom rfl)⟩
    simp [execOp, ho, hx', run_convert_bytes_string w a b e a' n c' hua hue hub, hrun, Result.andThen, Sem.run]
   ·cases h
  ·cases h
 ·rename_i t k o' hua hub hx
  split at h
  ·rename_i i u hi hrow
   obtain ⟨hz, h⟩ := (show ∀ {b : Bool} {x : Option (Value × St)} {y : Value × St}, (bif b then none else x) = some y → b = false ∧ x = some y from fun {b x y} h => by cases b <;> simp at h; exact ⟨rfl, h⟩) h
   injection h with h
   injection h with h1 h2
   subst h1 h2
   obtain ⟨bk, C, tt, hbk, hB, hl, hxx⟩ := ZkH he hrow
   obtain ⟨y, hy, hv⟩ := hxx 0 _ rfl
   obtain ⟨b', hb', hp⟩ := (hx ▸ hρ x).ptr_inv
   rw [hbk] at hb'; injection hb' with hb'; subst hb'
   have hc : w.cell? ⟨bk.1, o', none⟩ = some y := by
    rw [ZqX hB]
    simpa using hy
   have hsz : (P.info? t).map (fun i => decide (i.size = 0)) = some false := by
    rw [hi]
    simp only [Option.map_some, Option.some.injEq, decide_eq_false_iff_not]
    intro e
    rw [e] at hz
    simp at hz
   refine ⟨rfl, Res.same he (v' := .pointer (some ⟨bk.1, o', none⟩)) ?_ (.ptr hbk)⟩
   simp [execOp, ho, hp, run_convert_to_unsafe (w := w) hua hub hsz hc, Result.andThen, Sem.run]
  ·cases h
 ·rename_i u k hua hub hx
  split at h
  ·rename_i i c t hi hk
   replace h := Zo h
   obtain ⟨hg, h⟩ := h
   simp only [Bool.and_eq_true] at hg
   have h0 := Nat.le_of_ble_eq_true hg.1
   have hsub := hg.2.1
   have hft := hg.2.2
   unfold Zva at hft
   split at hft
   case h_2 => cases hft
   rename_i j hj
   rw [Bool.and_eq_true] at hft
   have hj0 := Nat.le_of_ble_eq_true hft.1
   have hc := Nat.le_of_ble_eq_true hft.2
   injection h with h
   injection h with h1 h2
   subst h1 h2
   obtain ⟨bk, C, hbk, hB, hcr, _⟩ := he.objF k c t hk
   obtain ⟨b', hb', hp⟩ := (hx ▸ hρ x).ptr_inv
   rw [hbk] at hb'; injection hb' with hb'; subst hb'
   obtain ⟨fr, hB, _⟩ := hB
   refine ⟨rfl, Res.same he (v' := .pointer (some ⟨bk.1, 0, none⟩)) ?_ (.ptr hbk)⟩
   simp [execOp, ho, hp, Zjy (w := w) hua hub hi h0 hsub hj hj0 hB (by have := hcr.1; omega), Result.andThen, Sem.run]
  ·cases h
 ·cases h
theorem Zrl {o : Oper} {a b : TypeId} {x : Operand} {z : ByteArray} {r : Option Za5} (ho : o.op = .convert a b x) (hx : ρ' x = .string z) (he : Emb P ι s.h.get w) (hf : Fresh ι s.n s'.n) (hob : ∀ p ∈ s'.ob, p.1 = p.2) (h : ZiO P a b z r s = some (v, s')) :
  Res P ((execOp ρ' o).run P w) s ι w v s' := by
 unfold ZiO at h
 split at h
 ·rename_i e hua hub
  split at h
  ·rename_i hue
   replace h := Zo h
   obtain ⟨hg, h⟩ := h
   simp only [Bool.and_eq_true] at hg
   obtain rfl : e = u8T := Nat.eq_of_beq_eq_true hg.1
   have hs1 : ∀ i, P.info? u8T = some i → i.size = 1 := fun i hi => by
    have := hg.2
    unfold sz1 at this
    rw [hi] at this
    exact Nat.eq_of_beq_eq_true this
   have hrun : (execOp ρ' o).run P w = .ok (.value (.slice (some ⟨w.heap.size, 0, none⟩) z.size (grownCap w z.size 0 u8T))) (Lib.bytesWorld w u8T z) := by
    simp [execOp, ho, hx, Lib.run_convert_string_bytes w a b u8T z hua hub hue, Result.andThen, Sem.run]
   have hge := grownCap_ge w z.size 0 u8T
   have hbl : (ZbE z).length = z.size := by unfold ZbE; rw [List.length_map, Array.length_toList]; rfl
   have hcr : CR ι (ZbE z) (Lib.bytesCells w u8T z) := by
    refine ⟨by rw [hbl]; unfold Lib.bytesCells; rw [Array.size_append, Array.size_map]; exact Nat.le_add_right _ _, fun i u y hu hy => ?_⟩
    have hi : i < z.size := by have := (List.getElem?_eq_some_iff.1 hu).1; omega
    have hi2 : i < (z.data.map fun b => Value.int .u8 b.toNat).size := by rw [Array.size_map]; exact hi
    unfold Lib.bytesCells at hy
    rw [Array.getElem?_append_left hi2, Array.getElem?_map] at hy
    unfold ZbE at hu
    rw [List.getElem?_map, Array.getElem?_toList] at hu
    rw [hu] at hy
    injection hy with hy
    subst hy
    cases hz : z.data[i]? with
    | none => rw [hz] at hu; cases hu
    | some q => rw [hz] at hu; injection hu with hu; subst hu; exact .atom rfl
   have hcs : (Lib.bytesCells w u8T z).size = grownCap w z.size 0 u8T := by
    unfold Lib.bytesCells
    rw [Array.size_append, Array.size_map, Array.size_replicate]
    show z.size + _ = _
    omega
   have st : s.n < s'.n → Step P ι s.h.get w (upd ι s.n (some (w.heap.size, grownCap w z.size 0 u8T))) (upd s.h.get s.n (some (.cells (ZbE z) u8T))) (Lib.bytesWorld w u8T z) := fun hn =>
    Step.allocG he (Nat.lt_of_lt_of_le hn hf.1) (hf.2 s.n (Nat.le_refl _) hn) u8T hcr _ (fun i hi => by rw [hs1 i hi, hcs]; omega) (fun b hb => Lib.bytesWorld_at_old w u8T z b hb) ⟨_, Lib.bytesWorld_at_new w u8T z, .inr ⟨Nat.le_refl _, rfl⟩⟩ (Lib.bytesWorld_size w u8T z) (by simp [Lib.bytesWorld, World.freeze, World.alloc, World.drew, -World.alloc_eq, -World.drew_eq]) (by simp [Lib.bytesWorld, World.freeze, World.alloc, World.drew, -World.alloc_eq, -World.drew_eq]) (by simp [Lib.bytesWorld, World.freeze, World.alloc, World.drew, -World.alloc_eq, -World.drew_eq])
   have vr : VR (upd ι s.n (some (w.heap.size, grownCap w z.size 0 u8T))) (.slice (some ⟨s.n, 0, none⟩) z.size z.size) (.slice (some ⟨w.heap.size, 0, none⟩) z.size (grownCap w z.size 0 u8T)) :=
    .slice (b := (w.heap.size, grownCap w z.size 0 u8T)) Zr (Nat.le_refl _) hge (fun _ => .inr (Nat.le_refl _))
   split at h
   ·injection h with h; injection h with h1 h2; subst h1 h2
    refine ⟨_, _, _, _, hrun, .inl rfl, ?_, Dom.one, vr⟩
    show Step P ι s.h.get w _ (s.h.set s.n _).get _
    rw [Tr.get_set]; exact st (Nat.lt_succ_self _)
   ·rename_i l cp c
    injection h with h; injection h with h1 h2; subst h1 h2
    obtain ⟨rfl, rfl⟩ := ZU.1 (hob _ (List.mem_cons_self ..))
    refine ⟨_, _, _, _, hrun, .inl rfl, ?_, Dom.one, vr⟩
    show Step P ι s.h.get w _ (s.h.set s.n _).get _
    rw [Tr.get_set]; exact st (Nat.lt_succ_self _)
   ·cases h
  ·cases h
 ·cases h
theorem Zvm {o : Oper} (hρ : ∀ x, VR ι (ρ x) (ρ' x)) (he : Emb P ι s.h.get w) (hf : Fresh ι s.n s'.n) (hob : ∀ p ∈ s'.ob, p.1 = p.2) (h : ev1 P ρ o s = some (v, s')) :
  Res P ((execOp ρ' o).run P w) s ι w v s' := by
 obtain ⟨dst, op, type, pos, after, guard⟩ := o
 cases op
 case move x =>
  simp only [ev1, Option.some.injEq, Prod.mk.injEq] at h
  obtain ⟨rfl, rfl⟩ := h
  exact Res.same he (v' := ρ' x) (by simp [execOp, Sem.run]) (hρ x)
 case assign x =>
  simp only [ev1, Option.some.injEq, Prod.mk.injEq] at h
  obtain ⟨rfl, rfl⟩ := h
  exact Res.same he (v' := ρ' x) (by simp [execOp, Sem.run]) (hρ x)
 case pick c a b =>
  simp only [ev1] at h
  split at h
  ·rename_i t ht
   have hc := (ht ▸ hρ c).bool_inv
   split at h
   ·injection h with h
    injection h with h1 h2
    subst h1 h2
    exact Res.same he (v' := ρ' a) (by simp [execOp, hc, asBool, Result.andThen, Sem.run]) (hρ a)
   ·injection h with h
    injection h with h1 h2
    subst h1 h2
    exact Res.same he (v' := ρ' b) (by simp [execOp, hc, asBool, Result.andThen, Sem.run]) (hρ b)
  ·cases h
 case alloc t =>
  simp only [ev1] at h
  split at h
  ·rename_i z hz
   injection h with h
   injection h with h1 h2
   subst h1 h2
   exact Zs7 rfl he hz hf
  ·cases h
 case box t x =>
  simp only [ev1, Option.some.injEq, Prod.mk.injEq] at h
  obtain ⟨rfl, rfl⟩ := h
  exact Zvc rfl (hρ x) he hf
 case build t ps =>
  simp only [ev1] at h
  obtain ⟨rfl, hr⟩ := ZsC (o := ⟨dst, .build t ps, type, pos, after, guard⟩) rfl hρ he h
  exact hr
 case buildSlice t n ps => exact Znq (o := ⟨dst, .buildSlice t n ps, type, pos, after, guard⟩) rfl hρ he hf h
 case load t a =>
  simp only [ev1] at h
  split at h
  ·rename_i l s1 hx
   obtain ⟨e1, e2, _⟩ := ZqZ hx
   exact Res.heap (ZsA (o := ⟨dst, .load t a, type, pos, after, guard⟩) (s := s1) rfl (hρ a) (e1 ▸ he) hob h) e1.symm e2.symm
  ·rename_i s1 hx
   obtain ⟨e1, e2, _⟩ := ZqZ hx
   split at h
   ·rename_i k o ha
    split at h
    ·rename_i u hu
     injection h with h
     injection h with h1 h2
     subst h1 h2
     exact Res.heap (ZkI (o := ⟨dst, .load t a, type, pos, after, guard⟩) (s := s1) rfl ha (hρ a) (e1 ▸ he) hu) e1.symm e2.symm
    ·cases h
   ·cases h
 case store t a x =>
  simp only [ev1] at h
  split at h
  ·rename_i c s1 hw
   obtain ⟨e1, e2, _⟩ := ZR hw
   obtain ⟨s2, h4, e3, e4⟩ := Zvd hob h
   exact ((ZmQ (o := ⟨dst, .store t a x, type, pos, after, guard⟩) (s := s1) rfl hρ (e1 ▸ he) h4).heap e1.symm e2.symm).behind e3 e4
  ·cases h
  ·rename_i s1 hw
   obtain ⟨e1, e2, _⟩ := ZR hw
   exact (ZmQ (o := ⟨dst, .store t a x, type, pos, after, guard⟩) (s := s1) rfl hρ (e1 ▸ he) h).heap e1.symm e2.symm
 case nilCheck x =>
  simp only [ev1] at h
  obtain ⟨rfl, hr⟩ := ZoR (o := ⟨dst, .nilCheck x, type, pos, after, guard⟩) rfl hρ he h
  exact hr
 case fieldAddr t x f => obtain ⟨rfl, hr⟩ := ZnP (o := ⟨dst, .fieldAddr t x f, type, pos, after, guard⟩) rfl hρ he h; exact hr
 case field t x f => obtain ⟨rfl, hr⟩ := Zs8 (o := ⟨dst, .field t x f, type, pos, after, guard⟩) rfl hρ he h; exact hr
 case index t x ix =>
  simp only [ev1] at h
  split at h
  ·split at h
   ·rename_i c s1 hw
    obtain ⟨e1, e2, _⟩ := ZR hw
    obtain ⟨e3, e4, hq⟩ := Zre (o := ⟨dst, .index t x ix, type, pos, after, guard⟩) (s := s1) rfl hρ (e1 ▸ he) hob h
    exact (hq.heap e1.symm e2.symm).behind e3 e4
   ·cases h
   ·rename_i s1 hw
    obtain ⟨e1, e2, _⟩ := ZR hw
    obtain ⟨rfl, hr⟩ := Zbo (o := ⟨dst, .index t x ix, type, pos, after, guard⟩) (s := s1) (fun _ _ e => by cases e) hρ (e1 ▸ he) h
    exact hr.heap e1.symm e2.symm
  split at h
  ·rename_i r hr
   injection h with h
   subst h
   obtain ⟨e1, hq⟩ := Zs9 (o := ⟨dst, .index t x ix, type, pos, after, guard⟩) rfl hρ he hr
   subst e1
   exact hq
  ·obtain ⟨rfl, hr⟩ := Zbo (o := ⟨dst, .index t x ix, type, pos, after, guard⟩) (fun _ _ e => by cases e) hρ he h; exact hr
 case indexAddr t x ix =>
  simp only [ev1] at h
  split at h
  ·rename_i n s1 hx
   obtain ⟨e1, e2, _⟩ := ZqY hx
   exact Res.heap (Znp (o := ⟨dst, .indexAddr t x ix, type, pos, after, guard⟩) (s := s1) rfl hρ (e1 ▸ he) hob h) e1.symm e2.symm
  ·rename_i s1 hx
   obtain ⟨e1, e2, _⟩ := ZqY hx
   obtain ⟨rfl, hr⟩ := ZeS (o := ⟨dst, .indexAddr t x ix, type, pos, after, guard⟩) (s := s1) rfl hρ (e1 ▸ he) h
   exact Res.heap hr e1.symm e2.symm
 case extract x i =>
  simp only [ev1] at h
  split at h
  ·rename_i vs hx
   split at h
   ·rename_i u hu
    injection h with h
    injection h with h1 h2
    subst h1 h2
    obtain ⟨vs', hx', hs, hc⟩ := (hx ▸ hρ x).tuple_inv
    have hlt : i < vs'.size := by rw [← hs]; exact (Array.getElem?_eq_some_iff.1 hu).1
    exact Res.same he (v' := vs'[i]) (by simp [execOp, Instr.extract, hx', Array.getElem?_eq_getElem hlt, Result.andThen, Sem.run]) (hc i _ _ hu (Array.getElem?_eq_getElem hlt))
   ·cases h
  ·cases h
 case slice t x lo hi mx =>
  simp only [ev1] at h
  split at h
  ·unfold ZtS at h
   split at h
   ·rename_i l m s1 hw
    obtain ⟨e1, e2, _⟩ := ZR hw
    obtain ⟨h4, e3, e4⟩ := Zve hob h
    obtain ⟨_, hq⟩ := ZjK (o := ⟨dst, .slice t x lo hi none, type, pos, after, guard⟩) (s := s1) rfl hρ (e1 ▸ he) h4
    exact (hq.heap e1.symm e2.symm).behind e3 e4
   ·rename_i l m m2 cs s1 hw
    obtain ⟨e1, e2, _⟩ := ZR hw
    obtain ⟨e3, e4, hq⟩ := Zrg (o := ⟨dst, .slice t x lo hi none, type, pos, after, guard⟩) (s := s1) rfl hρ (e1 ▸ he) hob h
    exact (hq.heap e1.symm e2.symm).behind e3 e4
   ·rename_i m c s1 hw
    obtain ⟨e1, e2, _⟩ := ZR hw
    exact (Zvf (o := ⟨dst, .slice t x lo hi none, type, pos, after, guard⟩) (s := s1) rfl hρ (e1 ▸ he) (e2 ▸ hf) hob h).heap e1.symm e2.symm
   ·rename_i M s1 hw
    obtain ⟨e1, e2, _⟩ := ZR hw
    obtain ⟨e3, e4, hq⟩ := Zrd (o := ⟨dst, .slice t x lo hi none, type, pos, after, guard⟩) (s := s1) rfl hρ (e1 ▸ he) hob h
    exact (hq.heap e1.symm e2.symm).behind e3 e4
   ·cases h
   ·rename_i s1 hw
    obtain ⟨e1, e2, _⟩ := ZR hw
    split at h
    ·rename_i r hr
     injection h with h
     subst h
     obtain ⟨e1', hq⟩ := ZjK (o := ⟨dst, .slice t x lo hi none, type, pos, after, guard⟩) (s := s1) rfl hρ (e1 ▸ he) hr
     subst e1'
     exact hq.heap e1.symm e2.symm
    ·split at h
     ·rename_i r hr
      injection h with h
      subst h
      exact (Zrc (o := ⟨dst, .slice t x lo hi none, type, pos, after, guard⟩) (s := s1) rfl hρ (e1 ▸ he) hob hr).heap e1.symm e2.symm
     ·obtain ⟨rfl, hr⟩ := Zbo (o := ⟨dst, .slice t x lo hi none, type, pos, after, guard⟩) (s := s1) (fun _ _ e => by cases e) hρ (e1 ▸ he) h
      exact hr.heap e1.symm e2.symm
  ·cases h
 case binOp op t x y yt =>
  by_cases hop : op = .rem
  ·subst hop
   simp only [ev1] at h
   split at h
   ·rename_i s1 hw
    obtain ⟨e1, e2, _⟩ := ZR hw
    obtain ⟨e3, e4, hr⟩ := Zuf (o := ⟨dst, .binOp .rem t x y yt, type, pos, after, guard⟩) (s := s1) rfl hρ (e1 ▸ he) hob h
    exact (hr.heap e1.symm e2.symm).behind e3 e4
   ·cases h
   ·rename_i s1 hw
    obtain ⟨e1, e2, _⟩ := ZR hw
    obtain ⟨rfl, hr⟩ := ZhJ (o := ⟨dst, .binOp .rem t x y yt, type, pos, after, guard⟩) (s := s1) rfl hρ (e1 ▸ he) h
    exact hr.heap e1.symm e2.symm
  ·by_cases hl : op = .shl
   ·subst hl
    simp only [ev1] at h
    split at h
    ·rename_i n s1 hw
     obtain ⟨e1, e2, _⟩ := ZR hw
     obtain ⟨e3, e4, hr⟩ := ZpT (o := ⟨dst, .binOp .shl t x y yt, type, pos, after, guard⟩) (s := s1) rfl hρ (e1 ▸ he) hob h
     exact (hr.heap e1.symm e2.symm).behind e3 e4
    ·cases h
    ·rename_i s1 hw
     obtain ⟨e1, e2, _⟩ := ZR hw
     obtain ⟨rfl, hr⟩ := ZhJ (o := ⟨dst, .binOp .shl t x y yt, type, pos, after, guard⟩) (s := s1) rfl hρ (e1 ▸ he) h
     exact hr.heap e1.symm e2.symm
   ·by_cases hr : op = .shr
    ·subst hr
     simp only [ev1] at h
     split at h
     ·rename_i n s1 hw
      obtain ⟨e1, e2, _⟩ := ZR hw
      obtain ⟨e3, e4, hr⟩ := ZpT (o := ⟨dst, .binOp .shr t x y yt, type, pos, after, guard⟩) (s := s1) rfl hρ (e1 ▸ he) hob h
      exact (hr.heap e1.symm e2.symm).behind e3 e4
     ·cases h
     ·rename_i s1 hw
      obtain ⟨e1, e2, _⟩ := ZR hw
      obtain ⟨rfl, hr⟩ := ZhJ (o := ⟨dst, .binOp .shr t x y yt, type, pos, after, guard⟩) (s := s1) rfl hρ (e1 ▸ he) h
      exact hr.heap e1.symm e2.symm
    ·by_cases ha : op = .add
     ·subst ha
      simp only [ev1] at h
      split at h
      ·obtain ⟨e3, e4, hr⟩ := Zvl (o := ⟨dst, .binOp .add t x y yt, type, pos, after, guard⟩) rfl hρ he hob h
       exact hr.behind e3 e4
      ·obtain ⟨rfl, hr⟩ := ZhJ (o := ⟨dst, .binOp .add t x y yt, type, pos, after, guard⟩) rfl hρ he h
       exact hr
     ·have h : Zh6 P ρ ⟨dst, .binOp op t x y yt, type, pos, after, guard⟩ op t x y s = some (v, s') := by cases op <;> first | exact h | exact absurd rfl hop | exact absurd rfl hl | exact absurd rfl hr | exact absurd rfl ha
      obtain ⟨rfl, hr⟩ := ZhJ (o := ⟨dst, .binOp op t x y yt, type, pos, after, guard⟩) rfl hρ he h
      exact hr
 case makeSlice t l c =>
  simp only [ev1] at h
  split at h
  ·rename_i n cp cs s1 hw
   obtain ⟨e1, e2, _⟩ := ZR hw
   obtain ⟨s2, h4, e3, e4⟩ := Zwo hob h
   exact ((Zj3 (o := ⟨dst, .makeSlice t l c, type, pos, after, guard⟩) (s := s1) rfl hρ (e1 ▸ he) (e2 ▸ e4 ▸ hf) h4).heap e1.symm e2.symm).behind e3 e4
  ·cases h
  ·rename_i s1 hw
   obtain ⟨e1, e2, _⟩ := ZR hw
   exact (Zj3 (o := ⟨dst, .makeSlice t l c, type, pos, after, guard⟩) (s := s1) rfl hρ (e1 ▸ he) (e2 ▸ hf) h).heap e1.symm e2.symm
 case makeFunc fn a b =>
  simp only [ev1, Option.some.injEq, Prod.mk.injEq] at h
  obtain ⟨rfl, rfl⟩ := h
  have h1 := Zki hρ a
  have h2 := Zki hρ b
  exact Res.same he (v' := .func fn (a.map ρ') (b.map ρ')) (by simp [execOp, Instr.makeFunc, Result.andThen, Sem.run]) (.func h1.1 h2.1 h1.2 h2.2)
 case makeMap t r =>
  exact Zqy (o := ⟨dst, .makeMap t r, type, pos, after, guard⟩) rfl hρ he hf h
 case range t x =>
  exact ZsK (o := ⟨dst, .range t x, type, pos, after, guard⟩) rfl hρ he hf h
 case next it q =>
  exact Zuc (o := ⟨dst, .next it q, type, pos, after, guard⟩) rfl hρ he h
 case lookup t x ix ok =>
  simp only [ev1] at h
  split at h
  ·rename_i r s1 hw
   obtain ⟨e1, e2, _⟩ := ZR hw
   obtain ⟨s2, h4, e3, e4⟩ := Zud hob h
   obtain ⟨e5, hr⟩ := Zl6 (o := ⟨dst, .lookup t x ix ok, type, pos, after, guard⟩) (s := s1) rfl hρ (e1 ▸ he) h4
   subst e5
   exact (hr.heap e1.symm e2.symm).behind e3 e4
  ·cases h
  ·rename_i s1 hw
   obtain ⟨e1, e2, _⟩ := ZR hw
   obtain ⟨e5, hr⟩ := Zl6 (o := ⟨dst, .lookup t x ix ok, type, pos, after, guard⟩) (s := s1) rfl hρ (e1 ▸ he) h
   subst e5
   exact hr.heap e1.symm e2.symm
 case mapUpdate t m k x =>
  simp only [ev1] at h
  split at h
  ·rename_i l s1 hw
   obtain ⟨e1, e2, _⟩ := ZR hw
   obtain ⟨s2, h4, e3, e4⟩ := Zue hob h
   exact ((Zl7 (o := ⟨dst, .mapUpdate t m k x, type, pos, after, guard⟩) (s := s1) rfl hρ (e1 ▸ he) h4).heap e1.symm e2.symm).behind e3 e4
  ·cases h
  ·rename_i s1 hw
   obtain ⟨e1, e2, _⟩ := ZR hw
   exact (Zl7 (o := ⟨dst, .mapUpdate t m k x, type, pos, after, guard⟩) (s := s1) rfl hρ (e1 ▸ he) h).heap e1.symm e2.symm
 case makeInterface t x => obtain ⟨rfl, hr⟩ := Zbo (o := ⟨dst, .makeInterface t x, type, pos, after, guard⟩) (fun _ _ e => by cases e) hρ he h; exact hr
 case unOp op t x => obtain ⟨rfl, hr⟩ := Zbo (o := ⟨dst, .unOp op t x, type, pos, after, guard⟩) (fun _ _ e => by cases e) hρ he h; exact hr
 case convert a b x =>
  simp only [ev1] at h
  split at h
  ·split at h
   ·rename_i ns s1 hw
    obtain ⟨e1, e2, _⟩ := ZR hw
    obtain ⟨e3, e4, hr⟩ := ZoS (o := ⟨dst, .convert a b x, type, pos, after, guard⟩) (s := s1) rfl hρ (e1 ▸ he) hob h
    exact (hr.heap e1.symm e2.symm).behind e3 e4
   ·cases h
   ·rename_i s1 hw
    obtain ⟨e1, e2, _⟩ := ZR hw
    obtain ⟨e3, hr⟩ := Zlj (o := ⟨dst, .convert a b x, type, pos, after, guard⟩) (s := s1) rfl hρ (e1 ▸ he) h
    subst e3
    exact hr.heap e1.symm e2.symm
  ·rename_i z hz
   have hz' : ρ' x = .string z := (hz ▸ hρ x).eq_of_atom rfl
   generalize hw : s.nextW = q at h
   obtain ⟨r, s1⟩ := q
   obtain ⟨e1, e2, _⟩ := ZR hw
   simp only at h
   split at h
   ·rename_i r2 hr
    injection h with h
    subst h
    have hq := Zrl (o := ⟨dst, .convert a b x, type, pos, after, guard⟩) (s := s1) rfl hz' (e1 ▸ he) (e2 ▸ hf) hob hr
    exact hq.heap e1.symm e2.symm
   ·obtain ⟨e3, hr⟩ := Zbo (o := ⟨dst, .convert a b x, type, pos, after, guard⟩) (s := s1) (fun _ _ e => by cases e) hρ (e1 ▸ he) h
    subst e3
    exact hr.heap e1.symm e2.symm
  ·split at h
   ·rename_i r hr
    injection h with h
    subst h
    obtain ⟨e1, hq⟩ := Zlj (o := ⟨dst, .convert a b x, type, pos, after, guard⟩) rfl hρ he hr
    subst e1
    exact hq
   ·obtain ⟨rfl, hr⟩ := Zbo (o := ⟨dst, .convert a b x, type, pos, after, guard⟩) (fun _ _ e => by cases e) hρ he h; exact hr
 case call c =>
  simp only [ev1] at h
  split at h
  ·rename_i b hc
   exact Zqz (o := ⟨dst, .call c, type, pos, after, guard⟩) rfl hc hρ he hf hob h
  ·cases h
 all_goals (simp [ev1] at h)
theorem Zxv {o : Oper} {v v1 : Value} {s1 : St} (h : ZqT o v s = (v1, s1)) (hob : ∀ p ∈ s1.ob, p.1 = p.2) : v1 = v ∧ s1.h = s.h ∧ s1.n = s.n := by
 unfold ZqT at h
 split at h
 all_goals first
  | (generalize hq : s.tst _ = q at h; obtain ⟨b, s2⟩ := q; simp only [Prod.mk.injEq] at h; obtain ⟨rfl, rfl⟩ := h; obtain ⟨rfl, e1, e2⟩ := Zl0 hq hob; exact ⟨rfl, e1, e2⟩)
  | (generalize hq : s.vst _ = q at h; obtain ⟨b, s2⟩ := q; simp only [Prod.mk.injEq] at h; obtain ⟨rfl, rfl⟩ := h; obtain ⟨rfl, e1, e2⟩ := Zye hq hob; exact ⟨rfl, e1, e2⟩)
  | (simp only [Prod.mk.injEq] at h; obtain ⟨rfl, rfl⟩ := h; exact ⟨rfl, rfl, rfl⟩)
end
end Ev
end Go.Proofs.YtlbbiflodemagaaDoor
/- The runner against the model: code and calls. -/
namespace Go.Proofs.YtlbbiflodemagaaDoor
open Go.RowKit
namespace Ev

/-! ### Numbers rise, and answers stay -/
theorem ZaG {a b : List (Bool × Bool)} (h : a <:+ b) (hb : ∀ p ∈ b, p.1 = p.2) : ∀ p ∈ a, p.1 = p.2 := fun p hp => hb p (h.subset hp)
structure Up (s s' : St) : Prop where
 n : s.n ≤ s'.n
 ob : s.ob <:+ s'.ob
 log : ∃ l, s'.wr = l ++ s.wr ∧ ∀ k, k ∉ l → ¬ (s.n ≤ k ∧ k < s'.n) → s'.h.get k = s.h.get k
theorem Up.refl (s : St) : Up s s := ⟨Nat.le_refl _, List.suffix_refl _, [], rfl, fun _ _ _ => rfl⟩
theorem Up.trans {a b c : St} (h : Up a b) (k : Up b c) : Up a c := by
 obtain ⟨l, h1, h2⟩ := h.log
 obtain ⟨m, k1, k2⟩ := k.log
 refine ⟨Nat.le_trans h.n k.n, h.ob.trans k.ob, m ++ l, by rw [k1, h1, List.append_assoc], fun j hj hn => ?_⟩
 have := h.n
 have := k.n
 rw [k2 j (fun e => hj (List.mem_append_left _ e)) (by omega), h2 j (fun e => hj (List.mem_append_right _ e)) (by omega)]
theorem ZeD {s s1 : St} {t b : Bool} (h : s.tst t = (b, s1)) : Up s s1 := by
 unfold St.tst at h
 split at h <;> (injection h with h1 h2; subst h1 h2)
 ·exact Up.refl _
 ·exact ⟨Nat.le_refl _, List.suffix_refl _, [], rfl, fun _ _ _ => rfl⟩
 ·exact ⟨Nat.le_refl _, List.suffix_cons _ _, [], rfl, fun _ _ _ => rfl⟩
theorem Zyg {s s1 : St} {x y : Int} (h : s.vst x = (y, s1)) : Up s s1 := by
 unfold St.vst at h
 split at h <;> (injection h with h1 h2; subst h1 h2)
 ·exact Up.refl _
 ·exact ⟨Nat.le_refl _, List.suffix_refl _, [], rfl, fun _ _ _ => rfl⟩
 ·exact ⟨Nat.le_refl _, List.suffix_cons _ _, [], rfl, fun _ _ _ => rfl⟩
theorem Zbi {s s1 : St} {k o : Nat} {l : List Value} (h : Zcq s k o l = some s1) : Up s s1 := by
 unfold Zcq at h
 split at h
 ·replace h := Zo h
  obtain ⟨_, h⟩ := h
  injection h with h
  subst h
  refine ⟨Nat.le_refl _, List.suffix_refl _, [k], rfl, fun j hj _ => ?_⟩
  show (s.h.set k _).get j = _
  rw [Tr.get_set, Zk (by simpa using hj)]
 ·cases h
section
variable {P : Program} {ρ : Operand → Value} {s s' : St} {v : Value}
theorem ZaB {o : Oper} (h : ZcF P ρ o s = some (v, s')) : Up s s' := by
 unfold ZcF at h
 replace h := (Zo h).2
 split at h
 ·replace h := (Zo h).2
  injection h with h; injection h with h1 h2; subst h1 h2; exact Up.refl _
 ·cases h
theorem up_add {c : List Value} {t : TypeId} : Up s (s.add c t) := ⟨Nat.le_succ _, List.suffix_refl _, [], rfl, fun j _ hn => by
 show (s.h.set s.n _).get j = _
 rw [Tr.get_set, Zk (fun e => hn ⟨by omega, by show j < s.n + 1; omega⟩)]⟩
theorem up_turn {k : Nat} {c : List Value} {t : TypeId} : Up s (s.turn k c t) := ⟨Nat.le_succ _, List.suffix_refl _, [k], rfl, fun j hj hn => by
 show ((s.h.set k none).set s.n _).get j = _
 rw [Tr.get_set, Zk (fun e => hn ⟨by omega, by show j < s.n + 1; omega⟩), Tr.get_set, Zk (by simpa using hj)]⟩
theorem Zvn {t tx : TypeId} {x y : Value} (h : Zcu P s t tx x y = some (v, s')) : Up s s' := by
 unfold Zcu at h
 try simp only [cond_eq_ite] at h
 repeat' (split at h)
 all_goals first
  | (cases h; done)
  | (injection h with h; injection h with h1 h2; subst h1 h2; first | exact Up.refl _ | exact up_add | exact up_turn | exact Zbi (by assumption))
  | exact ZaB h
theorem Zq0 {t n : Nat} {ps : Array (Nat × Operand)} (h : Zfd P ρ t n ps s = some (v, s')) : Up s s' := by
 unfold Zfd at h
 try simp only [cond_eq_ite] at h
 repeat' (split at h)
 all_goals first
  | (cases h; done)
  | (injection h with h; injection h with h1 h2; subst h1 h2; first | exact Up.refl _ | exact up_add | exact up_turn | exact Zbi (by assumption))
  | exact ZaB h
theorem Zwq {t : Nat} {ps : Array (Nat × Operand)} (h : ZjW P ρ t ps s = some (v, s')) : Up s s' := by
 unfold ZjW at h
 try simp only [cond_eq_ite] at h
 repeat' (split at h)
 all_goals first
  | (cases h; done)
  | (injection h with h; injection h with h1 h2; subst h1 h2; first | exact Up.refl _ | exact up_add | exact up_turn | exact Zbi (by assumption))
  | exact ZaB h
theorem Zwr {t : Nat} {a x : Operand} (h : Zhn P ρ t a x s = some (v, s')) : Up s s' := by
 unfold Zhn at h
 try simp only [cond_eq_ite] at h
 repeat' (split at h)
 all_goals first
  | (cases h; done)
  | (injection h with h; injection h with h1 h2; subst h1 h2; first | exact Up.refl _ | exact up_add | exact up_turn | exact Zbi (by assumption))
  | exact ZaB h
theorem Zrm {t f : Nat} {x : Operand} (h : ZfZ P ρ t x f s = some (v, s')) : Up s s' := by
 unfold ZfZ at h
 try simp only [cond_eq_ite] at h
 repeat' (split at h)
 all_goals first
  | (cases h; done)
  | (injection h with h; injection h with h1 h2; subst h1 h2; first | exact Up.refl _ | exact up_add | exact up_turn | exact Zbi (by assumption))
  | exact ZaB h
theorem Zws {t f : Nat} {x : Operand} (h : ZjY P ρ t x f s = some (v, s')) : Up s s' := by
 unfold ZjY at h
 try simp only [cond_eq_ite] at h
 repeat' (split at h)
 all_goals first
  | (cases h; done)
  | (injection h with h; injection h with h1 h2; subst h1 h2; first | exact Up.refl _ | exact up_add | exact up_turn | exact Zbi (by assumption))
  | exact ZaB h
theorem Zwt {t : Nat} {x ix : Operand} (h : ZjZ P ρ t x ix s = some (v, s')) : Up s s' := by
 unfold ZjZ at h
 try simp only [cond_eq_ite] at h
 repeat' (split at h)
 all_goals first
  | (cases h; done)
  | (injection h with h; injection h with h1 h2; subst h1 h2; first | exact Up.refl _ | exact up_add | exact up_turn | exact Zbi (by assumption))
  | exact ZaB h
theorem Zl8 {t : Nat} {x ix : Operand} (h : Zds P ρ t x ix s = some (v, s')) : Up s s' := by
 unfold Zds at h
 try simp only [cond_eq_ite] at h
 repeat' (split at h)
 all_goals first
  | (cases h; done)
  | (injection h with h; injection h with h1 h2; subst h1 h2; first | exact Up.refl _ | exact up_add | exact up_turn | exact Zbi (by assumption))
  | exact ZaB h
theorem Znr {t : Nat} {x : Operand} {lo hi : Option Operand} (h : ZeH P ρ t x lo hi s = some (v, s')) : Up s s' := by
 unfold ZeH at h
 try simp only [cond_eq_ite] at h
 repeat' (split at h)
 all_goals first
  | (cases h; done)
  | (injection h with h; injection h with h1 h2; subst h1 h2; first | exact Up.refl _ | exact up_add | exact up_turn | exact Zbi (by assumption))
  | exact ZaB h
theorem Zrn {t : Nat} {l c : Operand} (h : ZdT P ρ t l c s = some (v, s')) : Up s s' := by
 unfold ZdT at h
 try simp only [cond_eq_ite] at h
 repeat' (split at h)
 all_goals first
  | (cases h; done)
  | (injection h with h; injection h with h1 h2; subst h1 h2; first | exact Up.refl _ | exact up_add | exact up_turn | exact Zbi (by assumption))
  | exact ZaB h
theorem ZnX {a b : TypeId} {x : Operand} (h : Zg3 P ρ a b x s = some (v, s')) : Up s s' := by
 unfold Zg3 at h
 try simp only [cond_eq_ite] at h
 repeat' (split at h)
 all_goals first
  | (cases h; done)
  | (injection h with h; injection h with h1 h2; subst h1 h2; first | exact Up.refl _ | exact up_add | exact up_turn | exact Zbi (by assumption))
  | exact ZaB h
theorem Zro {o : Oper} {op : BinOp} {t : TypeId} {x y : Operand} (h : Zh6 P ρ o op t x y s = some (v, s')) : Up s s' := by
 unfold Zh6 at h
 split at h
 ·injection h with h; injection h with h1 h2; subst h1 h2; exact Up.refl _
 ·injection h with h; injection h with h1 h2; subst h1 h2; exact Up.refl _
 split at h
 ·rename_i r hr
  injection h with h; subst h
  exact ZaB hr
 ·split at h <;> first | (cases h; done) | (injection h with h; injection h with h1 h2; subst h1 h2; exact Up.refl _)
theorem ZN {s s1 : St} {a : Option Za5} (h : s.nextW = (a, s1)) : Up s s1 := by
 unfold St.nextW at h
 split at h <;> (injection h with h1 h2; subst h1 h2; exact ⟨Nat.le_refl _, List.suffix_refl _, [], rfl, fun _ _ _ => rfl⟩)
theorem Zab (q : Bool) : Up s (s.told q) := ⟨Nat.le_refl _, List.suffix_cons _ _, [], rfl, fun _ _ _ => rfl⟩
theorem up_putK {k : Nat} {c : List Value} {t : TypeId} {q : Bool} : Up s (s.putK k c t q) := ⟨Nat.le_refl _, List.suffix_refl _, [k], rfl, fun j hj _ => by
 show (s.h.set k _).get j = _
 rw [Tr.get_set, Zk (by simpa using hj)]⟩
theorem Zvo {t : Nat} {a x : Operand} {c : List Value} (h : ZiG P ρ t a x c s = some (v, s')) : Up s s' := by
 unfold ZiG at h
 try simp only [cond_eq_ite] at h
 repeat' (split at h)
 all_goals first
  | (cases h; done)
  | (injection h with h; injection h with h1 h2; subst h1 h2; exact up_putK.trans (Zab _))
theorem Zxw {x y : Operand} (h : Zlu ρ x y s = some (v, s')) : Up s s' := by
 unfold Zlu at h
 split at h
 ·injection h with h; injection h with h1 h2; subst h1 h2; exact Zab _
 ·cases h
theorem Zyh {op : BinOp} {x y : Operand} {n : Nat} (h : Zmo ρ op x y n s = some (v, s')) : Up s s' := by
 unfold Zmo at h
 split at h
 ·injection h with h; injection h with h1 h2; subst h1 h2; exact Zab _
 ·injection h with h; injection h with h1 h2; subst h1 h2; exact Zab _
 ·cases h
theorem Zvp {x y : Operand} (h : ZnM ρ x y s = some (v, s')) : Up s s' := by
 unfold ZnM at h
 split at h
 ·injection h with h; injection h with h1 h2; subst h1 h2; exact Zab _
 ·cases h
theorem Zvq {t : Nat} {x : Operand} {lo hi : Option Operand} {l m : Nat} (h : ZiJ P ρ t x lo hi l m s = some (v, s')) : Up s s' := by
 unfold ZiJ at h
 try simp only [cond_eq_ite] at h
 repeat' (split at h)
 all_goals first
  | (cases h; done)
  | (injection h with h; injection h with h1 h2; subst h1 h2; exact ((Zab _).trans (Zab _)).trans (Zab _))
theorem Zvr {t : Nat} {x : Operand} {lo hi : Option Operand} {l m m2 : Nat} {cs : List Cell} (h : ZiK P ρ t x lo hi l m m2 cs s = some (v, s')) : Up s s' := by
 unfold ZiK at h
 repeat' (split at h)
 all_goals first
  | (cases h; done)
  | (injection h with h; injection h with h1 h2; subst h1 h2; exact ((Zab _).trans (Zab _)).trans (Zab _))
theorem ZsN {a b : TypeId} {x : Operand} {ns : List Int} (h : Zg9 P ρ a b x ns s = some (v, s')) : Up s s' := by
 unfold Zg9 at h
 repeat' (split at h)
 all_goals first
  | (cases h; done)
  | (injection h with h; injection h with h1 h2; subst h1 h2; exact Zab _)
theorem Zxx {t : Nat} {x : Operand} {lo hi : Option Operand} {m : Nat} {c : List Value} (h : Zls P ρ t x lo hi m c s = some (v, s')) : Up s s' := by
 unfold Zls at h
 try simp only [cond_eq_ite] at h
 repeat' (split at h)
 all_goals first
  | (cases h; done)
  | (injection h with h; injection h with h1 h2; subst h1 h2; exact ((up_turn.trans (Zab _)).trans (Zab _)).trans (Zab _))
theorem Zwu {t : Nat} {l c : Operand} {n cp : Nat} {cs : List Value} (h : Zkb P ρ t l c n cp cs s = some (v, s')) : Up s s' := by
 unfold Zkb at h
 try simp only [cond_eq_ite] at h
 repeat' (split at h)
 all_goals first
  | (cases h; done)
  | (injection h with h; injection h with h1 h2; subst h1 h2; exact ((up_add.trans (Zab _)).trans (Zab _)).trans (Zab _))
theorem Zug {t tx : TypeId} {x y : Value} {m : Nat} {l c : List Value} (h : ZjX P s t tx x y m l c = some (v, s')) : Up s s' := by
 unfold ZjX at h
 try simp only [cond_eq_ite] at h
 repeat' (split at h)
 all_goals first
  | (cases h; done)
  | (injection h with h; injection h with h1 h2; subst h1 h2; first | exact up_add.trans (Zab _) | exact up_turn.trans (Zab _))
theorem ZsO {t tx : TypeId} {x y : Value} {m : Nat} {l c : List Value} (h : ZiH P s t tx x y m l c = some (v, s')) : Up s s' := by
 unfold ZiH at h
 try simp only [cond_eq_ite] at h
 repeat' (split at h)
 all_goals first
  | (cases h; done)
  | (injection h with h; injection h with h1 h2; subst h1 h2; exact up_putK.trans (Zab _))
theorem ZsP {t tx : TypeId} {x y : Value} (h : ZiI P s t tx x y = some (v, s')) : Up s s' := by
 unfold ZiI at h
 try simp only [cond_eq_ite] at h
 repeat' (split at h)
 all_goals first
  | (cases h; done)
  | (injection h with h; injection h with h1 h2; subst h1 h2; exact Zab _)
theorem Zuh {kk : IntKind} {e : Nat} {args : Array Value} {z : Int} {c : List Value} (h : ZhC kk e args z c s = some (v, s')) : Up s s' := by
 unfold ZhC at h
 repeat' (split at h)
 all_goals first
  | (cases h; done)
  | (injection h with h; injection h with h1 h2; subst h1 h2; first | exact Zab _ | exact up_putK.trans (Zab _) | exact ((Zab _).trans (ZeD (by assumption))) | exact (((Zab _).trans (ZeD (by assumption))).trans up_putK).trans (Zab _))
theorem Ztr {O : Obj} : Up s (s.addM O) := ⟨Nat.le_succ _, List.suffix_refl _, [], rfl, fun j _ hn => by
 show (s.h.set s.n _).get j = _
 rw [Tr.get_set, Zk (by intro e; subst e; exact hn ⟨Nat.le_refl _, Nat.lt_succ_self _⟩)]⟩
theorem up_putM {k : Nat} {O : Obj} : Up s (s.putM k O) := ⟨Nat.le_refl _, List.suffix_refl _, [k], rfl, fun j hj _ => by
 show (s.h.set k _).get j = _
 rw [Tr.get_set, Zk (by intro e; subst e; exact hj (List.mem_singleton.2 rfl))]⟩
theorem Zwv {t : TypeId} {x : Value} (h : Zkd P s t x = some (v, s')) : Up s s' := by
 unfold Zkd at h
 repeat' (split at h)
 all_goals first
  | (cases h; done)
  | (injection h with h; injection h with h1 h2; subst h1 h2; first | exact Up.refl _ | exact up_putM)
theorem Zvs {t : TypeId} {x k : Value} (h : ZiQ P s t x k = some (v, s')) : Up s s' := by
 unfold ZiQ at h
 repeat' (split at h)
 all_goals first
  | (cases h; done)
  | skip
 all_goals (replace h := (Zo h).2)
 all_goals first
  | (cases h; done)
  | (injection h with h; injection h with h1 h2; subst h1 h2; exact up_putM)
theorem Zww {t : TypeId} {x : Operand} (h : Zkc P ρ t x s = some (v, s')) : Up s s' := by
 unfold Zkc at h
 repeat' (split at h)
 all_goals first
  | (cases h; done)
  | (injection h with h; injection h with h1 h2; subst h1 h2; exact Ztr)
theorem Zxy {it : Operand} {q : Bool} (h : Zlx ρ it q s = some (v, s')) : Up s s' := by
 unfold Zlx at h
 repeat' (split at h)
 all_goals first
  | (cases h; done)
  | (injection h with h; injection h with h1 h2; subst h1 h2; first | exact up_putM | exact Up.refl _)
theorem Zui {t : TypeId} {r : Option Operand} (h : ZhF P ρ t r s = some (v, s')) : Up s s' := by
 unfold ZhF at h
 repeat' (split at h)
 all_goals first
  | (cases h; done)
  | (injection h with h; injection h with h1 h2; subst h1 h2; exact Ztr)
theorem Zvt {t : TypeId} {x ix : Operand} {ok : Bool} (h : Ze0 P ρ t x ix ok s = some (v, s')) : Up s s' := by
 unfold Ze0 at h
 repeat' (split at h)
 all_goals first
  | (cases h; done)
  | skip
 all_goals (replace h := (Zo h).2)
 all_goals first
  | (cases h; done)
  | (replace h := (Zo h).2; injection h with h; injection h with h1 h2; subst h1 h2; exact Up.refl _)
theorem Zuj {t : TypeId} {x ix : Operand} {ok : Bool} {r : Option Value} (h : ZhD P ρ t x ix ok r s = some (v, s')) : Up s s' := by
 unfold ZhD at h
 repeat' (split at h)
 all_goals first
  | (cases h; done)
  | skip
 all_goals (replace h := (Zo h).2; injection h with h; injection h with h1 h2; subst h1 h2; exact Zab _)
theorem Zvu {t : TypeId} {m k x : Operand} (h : Ze1 P ρ t m k x s = some (v, s')) : Up s s' := by
 unfold Ze1 at h
 repeat' (split at h)
 all_goals first
  | (cases h; done)
  | skip
 all_goals (replace h := (Zo h).2)
 all_goals first
  | (cases h; done)
  | (injection h with h; injection h with h1 h2; subst h1 h2; exact up_putM)
theorem Zuk {t : TypeId} {m k x : Operand} {l : List MapEntry} (h : ZhE P ρ t m k x l s = some (v, s')) : Up s s' := by
 unfold ZhE at h
 repeat' (split at h)
 all_goals first
  | (cases h; done)
  | skip
 all_goals (replace h := (Zo h).2; injection h with h; injection h with h1 h2; subst h1 h2; exact up_putM.trans (Zab _))
theorem Zul {o : Oper} {c : Call} {b : Builtin} (h : ZhG P ρ o c b s = some (v, s')) : Up s s' := by
 unfold ZhG at h
 split at h
 ·split at h
  ·split at h
   ·exact (ZN (by assumption)).trans (Zug h)
   ·exact (ZN (by assumption)).trans (ZsO h)
   ·exact (ZN (by assumption)).trans (ZsP h)
   ·cases h
   ·exact (ZN (by assumption)).trans (Zvn h)
  ·cases h
 ·split at h
  ·split at h
   ·injection h with h; injection h with h1 h2; subst h1 h2; exact Up.refl _
   ·split at h
    ·injection h with h; injection h with h1 h2; subst h1 h2; exact Up.refl _
    ·cases h
   ·exact ZaB h
  ·cases h
 ·split at h
  ·exact Zvs h
  ·cases h
 ·split at h
  ·exact Zwv h
  ·cases h
 ·exact ZaB h
theorem Zrp {s s1 : St} {a : Option Nat} (h : s.nextX = (a, s1)) : Up s s1 := by
 unfold St.nextX at h
 split at h <;> (injection h with h1 h2; subst h1 h2)
 ·exact Up.refl _
 ·exact ⟨Nat.le_refl _, List.suffix_refl _, [], rfl, fun _ _ _ => rfl⟩
theorem Zrq {s s1 : St} {a : Option (List Cell)} (h : s.nextL = (a, s1)) : Up s s1 := by
 unfold St.nextL at h
 split at h <;> (injection h with h1 h2; subst h1 h2)
 ·exact Up.refl _
 ·exact ⟨Nat.le_refl _, List.suffix_refl _, [], rfl, fun _ _ _ => rfl⟩
theorem up_told {s : St} {q : Bool} : Up s (s.told q) := ⟨Nat.le_refl _, List.suffix_cons _ _, [], rfl, fun _ _ _ => rfl⟩
theorem Zq1 {t : Nat} {x ix : Operand} {i : Nat} (h : Zfe P ρ t x ix i s = some (v, s')) : Up s s' := by
 unfold Zfe at h
 repeat' (split at h)
 all_goals first
  | (cases h; done)
  | (injection h with h; injection h with h1 h2; subst h1 h2; exact up_told.trans up_told)
theorem Zwx {t : Nat} {a : Operand} {l : List Cell} (h : Zka P ρ t a l s = some (v, s')) : Up s s' := by
 unfold Zka at h
 repeat' (split at h)
 all_goals first
  | (cases h; done)
  | (injection h with h; injection h with h1 h2; subst h1 h2; exact up_told)
theorem Zvv {t : Nat} {x : Operand} {lo hi : Option Operand} {M : List Int} (h : ZiM P ρ t x lo hi M s = some (v, s')) : Up s s' := by
 unfold ZiM at h
 split at h
 ·split at h
  ·injection h with h; injection h with h1 h2; subst h1 h2; exact up_told
  ·cases h
 ·cases h
theorem Zvw {t : Nat} {x ix : Operand} {c : List Int} (h : ZiN P ρ t x ix c s = some (v, s')) : Up s s' := by
 unfold ZiN at h
 split at h
 ·injection h with h; injection h with h1 h2; subst h1 h2; exact up_told
 ·cases h
theorem Zl9 {t : Nat} {x : Operand} {lo hi : Option Operand} (h : ZiL P ρ t x lo hi s = some (v, s')) : Up s s' := by
 unfold ZiL at h
 split at h
 ·split at h
  ·replace h := (Zo h).2
   split at h
   ·injection h with h; injection h with h1 h2; subst h1 h2; exact ZeD (by assumption)
   ·cases h
  ·cases h
 ·cases h
theorem Zts {o : Oper} {t : Nat} {x : Operand} {lo hi : Option Operand} (h : ZtS P ρ o t x lo hi s = some (v, s')) : Up s s' := by
 unfold ZtS at h
 split at h
 ·exact (ZN (by assumption)).trans (Zvq h)
 ·exact (ZN (by assumption)).trans (Zvr h)
 ·exact (ZN (by assumption)).trans (Zxx h)
 ·exact (ZN (by assumption)).trans (Zvv h)
 ·cases h
 ·split at h
  ·injection h with h; subst h; exact (ZN (by assumption)).trans (Znr (by assumption))
  ·split at h
   ·injection h with h; subst h; exact (ZN (by assumption)).trans (Zl9 (by assumption))
   ·exact (ZN (by assumption)).trans (ZaB h)
theorem Zvx {a b : TypeId} {z : ByteArray} {r : Option Za5} (h : ZiO P a b z r s = some (v, s')) : Up s s' := by
 unfold ZiO at h
 repeat' (split at h)
 all_goals first
  | (cases h; done)
  | skip
 all_goals (replace h := (Zo h).2)
 all_goals (repeat' (split at h))
 all_goals first
  | (cases h; done)
  | (injection h with h; injection h with h1 h2; subst h1 h2; first | exact up_add | exact up_add.trans (Zab _))
theorem Zyi {o : Oper} (h : ev1 P ρ o s = some (v, s')) : Up s s' := by
 unfold ev1 at h
 split at h
 all_goals first
  | exact Zts h | exact Zq0 h | exact Zwq h | exact Zrm h | exact Zws h | exact Zl8 h | exact Zro h | exact Zvp h | exact ZaB h
  | (injection h with h; injection h with h1 h2; subst h1 h2; first | exact Up.refl _ | exact up_add)
  | (cases h; done)
  | skip
 ·split at h
  ·split at h <;> (injection h with h; injection h with h1 h2; subst h1 h2; exact Up.refl _)
  ·cases h
 all_goals (repeat' (split at h))
 all_goals first
  | (cases h; done)
  | exact (ZN (by assumption)).trans (Zvo h)
  | exact (ZN (by assumption)).trans (Zwr h)
  | exact (ZN (by assumption)).trans (Zxw h)
  | exact (ZN (by assumption)).trans (Zyh h)
  | exact (ZN (by assumption)).trans (Zro h)
  | exact Zvp h
  | exact Zro h
  | exact Zui h
  | exact Zww h
  | exact Zxy h
  | exact (ZN (by assumption)).trans (Zuj h)
  | exact (ZN (by assumption)).trans (Zvt h)
  | exact (ZN (by assumption)).trans (Zuk h)
  | exact (ZN (by assumption)).trans (Zvu h)
  | exact Zts h
  | exact (ZN (by assumption)).trans (Zwu h)
  | exact (ZN (by assumption)).trans (ZsN h)
  | exact (ZN (by assumption)).trans (ZnX h)
  | exact (ZN (by assumption)).trans (Zrn h)
  | exact (ZN (by assumption)).trans (Zvw h)
  | exact (ZN (by assumption)).trans (ZaB h)
  | (injection h with h; subst h; first | exact (ZN (by assumption)).trans (Znr (by assumption)) | exact (ZN (by assumption)).trans (Zl9 (by assumption)))
  | exact (Zrq (by assumption)).trans (Zwx h)
  | exact (Zrp (by assumption)).trans (Zq1 h)
  | exact (Zrp (by assumption)).trans (Zl8 h)
  | (injection h with h; injection h with h1 h2; subst h1 h2; exact Zrq (by assumption))
  | exact Zul h
  | exact ZaB h
  | (injection h with h; injection h with h1 h2; subst h1 h2; first | exact Up.refl _ | exact up_add)
  | (injection h with h; subst h; exact (ZN (by assumption)).trans (Zvx (by assumption)))
  | (injection h with h; subst h; first | exact Zwt (by assumption) | exact Znr (by assumption) | exact Zl9 (by assumption) | exact ZnX (by assumption))
theorem Zxz {n : Nat} {args : Array Value} (h : Zlv n args s = some (v, s')) : Up s s' := by
 unfold Zlv at h
 split at h
 ·injection h with h; injection h with h1 h2; subst h1 h2; exact Up.refl _
 ·injection h with h; injection h with h1 h2; subst h1 h2; exact Up.refl _
 ·cases h
theorem Zvy {kk : IntKind} {e : Nat} {args : Array Value} (h : Zd0 kk e args s = some (v, s')) : Up s s' := by
 unfold Zd0 at h
 repeat' (split at h)
 all_goals first
  | (cases h; done)
  | (injection h with h; injection h with h1 h2; subst h1 h2; first | exact Up.refl _ | exact Zbi (by assumption) | exact ZeD (by assumption) | exact (ZeD (by assumption)).trans (Zbi (by assumption)))
theorem Ztt {o : Oper} {v1 : Value} {s1 : St} (h : ZqT o v s = (v1, s1)) : Up s s1 := by
 unfold ZqT at h
 split at h
 all_goals first
  | (generalize hq : s.tst _ = q at h; obtain ⟨b, s2⟩ := q; simp only [Prod.mk.injEq] at h; obtain ⟨rfl, rfl⟩ := h; exact ZeD hq)
  | (generalize hq : s.vst _ = q at h; obtain ⟨b, s2⟩ := q; simp only [Prod.mk.injEq] at h; obtain ⟨rfl, rfl⟩ := h; exact Zyg hq)
  | (simp only [Prod.mk.injEq] at h; obtain ⟨rfl, rfl⟩ := h; exact Up.refl _)
end
end Ev
end Go.Proofs.YtlbbiflodemagaaDoor
/- What the caller's rows are, all of them; the program's tables. -/
namespace Go.Proofs.YtlbbiflodemagaaDoor
open Go.RowKit
namespace Ev
mutual
inductive Dec (w : World) : Nat → Nat → Nat → Prop
 | mk {b base id : Nat} {c : List Cell} {C : Array Value} {t : TypeId} {fr : Nat × Nat} (h1 : decode id = some c) (h2 : w.heap[b]? = some (.cells C t fr)) (h3 : 0 < c.length → base + c.length ≤ C.size) (h4 : ∀ (i : Nat) (x : Cell) (y : Value), c[i]? = some x → C[base + i]? = some y → DecC w x y) : Dec w b base id
inductive DecC (w : World) : Cell → Value → Prop
 | i {n : Int} : DecC w (.i n) (.int .i64 n)
 | k {q : IntKind} {n : Int} : DecC w (.k q n) (.int q n)
 | b {q : Bool} : DecC w (.b q) (.bool q)
 | s {x : ByteArray} : DecC w (.s x) (.string x)
 | m0 {id o : Nat} {a : Option Addr} : DecC w (.m id o 0 0) (.slice a 0 0)
 | m {b base id o n c c' : Nat} (h : Dec w b base id) (hn : n ≤ c) (hc : c ≤ c') : DecC w (.m id o n c) (.slice (some ⟨b, base + o, none⟩) n c')
end
noncomputable def ιMk (w : World) : Ren := fun k => @dite _ (∃ b base id, k = ZX b base id ∧ Dec w b base id) (Classical.propDecidable _) (fun h => some (h.choose, 0)) (fun _ => none)
theorem ιMk_of {w : World} {b base id : Nat} (h : Dec w b base id) : ιMk w (ZX b base id) = some (b, 0) := by
 have hex : ∃ b' base' id', ZX b base id = ZX b' base' id' ∧ Dec w b' base' id' := ⟨b, base, id, rfl, h⟩
 unfold ιMk
 rw [dif_pos hex]
 obtain ⟨base', id', h1, _⟩ := hex.choose_spec
 rw [← (Znn h1).1]
theorem ιMk_inv {w : World} {k : Nat} {q : Nat × Nat} (h : ιMk w k = some q) : ∃ b base id, k = ZX b base id ∧ q = (b, 0) ∧ Dec w b base id := by
 unfold ιMk at h
 by_cases hex : ∃ b' base' id', k = ZX b' base' id' ∧ Dec w b' base' id'
 ·rw [dif_pos hex] at h
  injection h with h
  obtain ⟨base', id', h1, h2⟩ := hex.choose_spec
  exact ⟨_, base', id', h1, h.symm, h2⟩
 ·rw [dif_neg hex] at h; cases h
theorem DecC.vr {w : World} {x : Cell} {y : Value} (h : DecC w x y) : VR (ιMk w) (Zdl x) y := by
 cases h with
 | i => exact .atom rfl
 | k => exact .atom rfl
 | b => exact .atom rfl
 | s => exact .atom rfl
 | m0 => exact .slice0 fun _ => rfl
 | m h hn hc => exact .mslice (ιMk_of h) hn hc
def TabW (w : World) : Prop := ∀ x ∈ tabs, ∃ C t fr, w.heap[x.1]? = some (.cells C t fr) ∧ Zwk x.2 C
theorem Zx0 : Zw (fun x : Nat × List Cell => Zw atom (Zu x.2)) tabs = true := by rfl
theorem Zwy {w : World} {x : Cell} (h : atom (Zdl x) = true) : DecC w x (Zdl x) := by
 cases x with
 | i n => exact .i
 | b q => exact .b
 | k q n => exact .k
 | s x => exact .s
 | any => exact (Bool.false_ne_true h).elim
 | m id o n c => exact (Bool.false_ne_true h).elim
theorem TabW.dec {w : World} (h : TabW w) : ∀ x ∈ tabs, Dec w x.1 0 (code x.2) := fun x hx => by
 obtain ⟨C, t, fr, h1, hC⟩ := h x hx
 obtain ⟨g, l⟩ := x
 cases l with
 | nil => exact .mk (Zc1 []) h1 (fun h => by simp at h) fun i z y hz hy => by simp at hz
 | cons z0 l =>
 obtain rfl : C = _ := hC
 generalize hx2 : (g, z0 :: l) = x at *
 obtain rfl : g = x.1 := by rw [← hx2]
 have e2 : z0 :: l = x.2 := by rw [← hx2]
 have ha := Zao Zx0 x hx
 have hl : (Zu x.2).length = x.2.length := by unfold Zu; rw [List.length_map]
 refine .mk (Zc1 x.2) h1 (fun _ => by simp [hl]) fun i z y hz hy => ?_
 have hv : (Zu x.2)[i]? = some (Zdl z) := by unfold Zu; rw [List.getElem?_map, hz]; rfl
 rw [Nat.zero_add, List.getElem?_toArray, hv] at hy
 injection hy with hy
 subst hy
 exact Zwy (Zao ha _ (List.mem_of_getElem? hv))
theorem Emb.tabw {P : Program} {ι : Ren} {h : AH} {w : World} (e : Emb P ι h w) : TabW w := fun x hx => by
 obtain ⟨q, hq⟩ := e.tb x hx
 obtain ⟨_, ⟨⟨c, C, t, fr, h1, h2, h3, h4, h5⟩, _⟩, _⟩ := e.mks _ _ _ _ hq
 exact ⟨C, t, fr, h2, h5 x hx rfl⟩
theorem Zx1 (P : Program) {w : World} (ht : TabW w) : Emb P (ιMk w) (fun _ => none) w := by
 refine ⟨fun k c t q hk => (by cases hk), fun k O hk => (by cases hk), fun k k' b1 b2 h1 => (by cases h1), fun k b1 hk => ?_, fun b base id q hq => ?_, fun x hx => ⟨_, ιMk_of (ht.dec x hx)⟩⟩
 ·obtain ⟨b, base, id, rfl, rfl, h⟩ := ιMk_inv hk
  cases h with
  | mk _ h2 _ _ => exact (Array.getElem?_eq_some_iff.1 h2).1
 ·obtain ⟨b', base', id', h1, rfl, h⟩ := ιMk_inv hq
  obtain ⟨rfl, rfl, rfl⟩ := Znn h1
  cases h with
  | mk h1 h2 h3 h4 =>
   rename_i c C t fr
   refine ⟨rfl, ⟨⟨c, C, t, fr, h1, h2, h3, fun i x y hx hy => ?_, fun x hx hb => ?_⟩, fun o c' hc => ιMk_of ?_⟩, fun k d hk => (by cases hk)⟩
   ·unfold Zu at hx
    rw [List.getElem?_map] at hx
    cases hb : c[i]? with
    | none => rw [hb] at hx; cases hx
    | some z =>
     rw [hb] at hx
     injection hx with hx
     subst hx
     exact (h4 i z y hb hy).vr
   ·obtain ⟨C', t', fr', h6, h7⟩ := ht x hx
    rw [hb, h2] at h6
    injection h6 with h6
    injection h6 with h6
    rw [h6]; exact h7
   ·unfold ZaO at hc
    rw [h1] at hc
    obtain ⟨e, hl⟩ := Zdm hc
    have hl' : c'.length ≤ c.length - o := by simpa using hl
    refine .mk (Zc1 c') h2 (fun h0 => by have := h3 (by omega); omega) fun i x y hx hy => ?_
    have hi : i < c'.length := (List.getElem?_eq_some_iff.1 hx).1
    refine h4 (o + i) x y ?_ (by rw [← Nat.add_assoc]; exact hy)
    rw [e, List.getElem?_take_of_lt hi, List.getElem?_drop] at hx
    exact hx
end Ev
end Go.Proofs.YtlbbiflodemagaaDoor
/- The runner against the model: code and calls. -/
namespace Go.Proofs.YtlbbiflodemagaaDoor
open Go.RowKit
namespace Ev

def Zms (P : Program) (ι : Ren) (s : St) (w : World) (v : Value) (s' : St) (e : Ending) (w' : World) : Prop :=
  ∃ v' ι', e = .returned v' ∧ Step P ι s.h.get w ι' s'.h.get w' ∧ Dom ι ι' s.n s'.n ∧ VR ι' v v'
def Goes (P : Program) (f : FuncId) (args : Array Value) (w : World) (R : Ending → World → Prop) : Prop :=
  ((∃ (fn : Func) (c : Code), P.funcs[f]? = some fn ∧ fn.body = some c) ∧ Calls P f args w R) ∨ ∃ v w', (callFunc f args).run P w = .ok (.value v) w' ∧ R (.returned v) w'
structure Zfj (P : Program) (f : FuncId) (g : Array Value → St → Out) : Prop where
  up : ∀ args s v s', g args s = some (v, s') → Up s s'
  does : ∀ args s v s', g args s = some (v, s') → (∀ p ∈ s'.ob, p.1 = p.2) → ∀ ι w args', VRs ι args args' → Emb P ι s.h.get w → Fresh ι s.n s'.n → Goes P f args' w (Zms P ι s w v s')
def Zej (v : Value) : List PanicEntry := [{ v := v, recovered := false }]
def Z3 (P : Program) (f : FuncId) (args : Array Value) (pre : List (Nat × AObj)) (v : Value) (post : List (Nat × Option AObj)) (n dn : Nat) : Prop :=
  ∀ ι w args', VRs ι args args' → Emb P ι (fun k => Zax k pre) w → Fresh ι n (n + dn) → Calls P f args' w fun e w' => (∃ v' ι', e = .returned v' ∧ Step P ι (fun k => Zax k pre) w ι' (behind pre post) w' ∧ Dom ι ι' n (n + dn) ∧ VR ι' v v') ∨ (ZbL v = true ∧ ∃ ι', e = .panicked (Zej v) ∧ Step P ι (fun k => Zax k pre) w ι' (behind pre post) w' ∧ Dom ι ι' n (n + dn))
structure Fit (P : Program) (ext : FuncId → Option Ext) : Prop where
  mixed : P.follows .mixedOrders = true
  go : ∀ (f : Nat) (fn : Func), P.funcs[f]? = some fn → (fn.name == "runtime.NumGoroutine") = false
  fn : ∀ (f : Nat) (g : List Value → Option Value), ext f = some (.fn g) → (∃ (fn : Func) (c : Code), P.funcs[f]? = some fn ∧ fn.body = some c) ∧ ∀ (args : Array Value) (v : Value), Zw Zbl args.toList = true → g args.toList = some v → ∀ w, TabW w → Calls P f args w fun e w' => e = .returned v ∧ Below w.heap.size w w'
  hp : ∀ (f : Nat) (g : Array Value → St → Out), ext f = some (.hp g) → Zfj P f g
  tc : ∀ (f : Nat) (S : Array Value → List (Nat × AObj) → Value → List (Nat × Option AObj) → Nat → Nat → Prop), ext f = some (.tc S) → (∃ (fn : Func) (c : Code), P.funcs[f]? = some fn ∧ fn.body = some c) ∧ ∀ args pre v post n dn, S args pre v post n dn → Z3 P f args pre v post n dn
  mark : ∀ (f : Nat) (n : Nat), ext f = some (.mark n) → ∃ fn : Func, P.funcs[f]? = some fn ∧ fn.body.isNone = true ∧ Extern.findNext fn = none ∧
    (n = 0 ∧ (∃ m : Mark, Extern.find fn = some (fun _ => do mark m; pure Extern.Race.none_)) ∨ n = 1 ∧ ∃ m : Addr → Mark, Extern.find fn = some (Extern.Race.marked m))
  ext : ∀ (f : Nat) (kk : IntKind) (e : Nat), ext f = some (.at kk e) → ∃ fn : Func, P.funcs[f]? = some fn ∧ fn.body.isNone = true ∧ Extern.findNext fn = none ∧
    (e = 0 ∧ Extern.find fn = some (Extern.Atomic.loadT (.int kk)) ∨ e = 1 ∧ Extern.find fn = some Extern.Atomic.storeT ∨
     e = 2 ∧ Extern.find fn = some (Extern.Atomic.update (Op.intArith .add) kk true) ∨ e = 3 ∧ Extern.find fn = some (Extern.Atomic.casT (.int kk)))
section
variable {P : Program} {ext : FuncId → Option Ext}

theorem up_fn {g : List Value → Option Value} {args : Array Value} {s s' : St} {v : Value} (h : ZtT g args s = some (v, s')) : Up s s' := by
  unfold ZtT at h
  replace h := (Zo h).2
  split at h
  · replace h := (Zo h).2
    injection h with h; injection h with h1 h2; subst h1 h2; exact Up.refl _
  · cases h
theorem Za4 {ops : Array Oper} {T : Tr Value} {o : Oper} {s s' : St} {b : Bool} (h : Zeg ops T o s = some (b, s')) : Up s s' := by
  unfold Zeg at h
  split at h
  · injection h with h; injection h with h1 h2; subst h1 h2; exact Up.refl _
  · split at h
    · split at h
      · injection h with h; injection h with h1 h2; subst h1 h2; exact Up.refl _
      · injection h with h; injection h with h1 h2; subst h1 h2; exact Up.refl _
      · cases h
    · cases h
theorem Zj5 {h : Tr AObj} (k : Nat) : ∀ (t : List Nat), (Zj2 h t).get k = if k ∈ t then h.get k else none
  | [] => by simp [Zj2, Tr.get_nil]
  | j :: t => by
    rw [Zj2, Tr.get_set]
    by_cases hk : k = j
    · subst hk; rw [Zr]; simp
    · rw [Zk hk, Zj5 k t]
      simp [hk]
theorem Zdu {r h : Tr AObj} (k : Nat) : ∀ (t : List Nat), (Ze2 r t h).get k = if k ∈ t then r.get k else h.get k
  | [] => by simp [Ze2]
  | j :: t => by
    rw [Ze2, Tr.get_set]
    by_cases hk : k = j
    · subst hk; rw [Zr]; simp
    · rw [Zk hk, Zdu k t]
      simp [hk]
section
variable {P : Program}
/-! ### What is elsewhere stays -/
noncomputable def join (h x : AH) : AH := fun k => match h k with | some o => some o | none => x k
theorem Zdv {h x : AH} {k : Nat} (hk : (h k).isSome) : join h x k = h k := by
  unfold join
  cases he : h k with
  | none => rw [he] at hk; cases hk
  | some o => rfl
theorem Zbz {h x : AH} {k : Nat} (hk : h k = none) : join h x k = x k := by unfold join; rw [hk]
theorem Emb.sub {ι : Ren} {h g : AH} {w : World} (e : Emb P ι g w) (hs : ∀ k o, h k = some o → g k = some o) : Emb P ι h w := by
  have iso : ∀ k, sol (h k) → sol (g k) := fun k hk => by
    cases he : h k with
    | none => rw [he] at hk; cases hk
    | some o => rw [hs k o he, ← he]; exact hk
  have isoC : ∀ k, isC (h k) = true → isC (g k) = true := fun k hk => by
    cases he : h k with
    | none => rw [he] at hk; cases hk
    | some o => rw [hs k o he, ← he]; exact hk
  exact ⟨fun k c t q hk => e.obj k c t q (hs k _ hk), fun k O hk => e.ro k O (hs k _ hk), fun k k' b b' h1 h2 => e.inj k k' b b' (isoC k h1) (iso k' h2), e.lt, fun b base id q hq => ⟨(e.mks b base id q hq).1, (e.mks b base id q hq).2.1, fun k d hk hd => (e.mks b base id q hq).2.2 k d (isoC k hk) hd⟩, e.tb⟩
theorem Step.framed {ι ι' : Ren} {h h' x : AH} {w w' : World} (st : Step P ι h w ι' h' w') (e : Emb P ι (join h x) w) (hx : ∀ k, (x k).isSome → h k = none) :
    Step P ι (join h x) w ι' (join h' x) w' := by
  have hl : ∀ k, sol (h k) → sol (join h x k) := fun k hk => by rw [Zdv (Ze4 hk)]; exact hk
  have hlC : ∀ k, isC (h k) = true → isC (join h x k) = true := fun k hk => by rw [Zdv (ZbU hk)]; exact hk
  have xlC : ∀ k, isC (x k) = true → isC (join h x k) = true := fun k hk => by rw [Zbz (hx k (ZbU hk))]; exact hk
  have xl : ∀ k, sol (x k) → sol (join h x k) := fun k hk => by rw [Zbz (hx k (Ze4 hk))]; exact hk
  have xi : ∀ k, (x k).isSome → (join h x k).isSome := fun k hk => by rw [Zbz (hx k hk)]; exact hk
  have partsS : ∀ k, sol (join h' x k) → sol (h' k) ∨ (h' k = none ∧ sol (x k)) := fun k hk => by
    cases he : h' k with
    | some o => rw [Zdv (by rw [he]; rfl), he] at hk; exact .inl hk
    | none => rw [Zbz he] at hk; exact .inr ⟨rfl, hk⟩
  have parts : ∀ k, (join h' x k).isSome → (h' k).isSome ∨ (h' k = none ∧ (x k).isSome) := fun k hk => by
    cases he : h' k with
    | some o => exact .inl rfl
    | none => rw [Zbz he] at hk; exact .inr ⟨rfl, hk⟩
  have partsC : ∀ k, isC (join h' x k) = true → isC (h' k) = true ∨ (h' k = none ∧ isC (x k) = true) := fun k hk => by
    cases he : h' k with
    | some o => rw [Zdv (by rw [he]; rfl), he] at hk; exact .inl hk
    | none => rw [Zbz he] at hk; exact .inr ⟨rfl, hk⟩
  have xι : ∀ k, (x k).isSome → ∃ b, ι k = some b ∧ ι' k = some b := fun k hk => by
    obtain ⟨b, hb⟩ := e.live (xi k hk)
    exact ⟨b, hb, st.ext k b hb⟩
  refine ⟨st.ext, ⟨fun k c t q hk => ?_, fun k O hk => ?_, fun k k' b b' h1 h2 h3 h4 h5 => ?_, st.emb.lt, ?_, st.emb.tb⟩, st.os, st.tape, st.output, st.size, fun b hb hno => st.frame b hb fun k c hk => hno k c (hlC k hk), fun k b h1 h2 => ?_, fun k h1 h2 => ?_, fun k h1 h2 => ?_⟩
  · rcases parts k (by rw [hk]; rfl) with h1 | ⟨h1, h2⟩
    · rw [Zdv h1] at hk
      exact st.emb.obj k c t q hk
    · rw [Zbz h1] at hk
      obtain ⟨b, hb, hz | ⟨q0, C, hB, hC, hQ⟩⟩ := e.obj k c t q (by rw [Zbz (hx k h2)]; exact hk)
      · exact ⟨b, st.ext k b hb, .inl hz⟩
      refine ⟨b, st.ext k b hb, .inr ⟨q0, C, ?_, hC.ext st.ext, hQ⟩⟩
      rw [st.frame b.1 (e.lt k b hb)]
      · exact hB
      · intro j d hj hd he
        have : j = k := e.inj j k d b (hlC j hj) (xl k (by rw [hk]; exact ZeI q0)) hd hb he
        subst this
        rw [hx j h2] at hj
        cases hj
  · rcases parts k (by rw [hk]; rfl) with h1 | ⟨h1, h2⟩
    · rw [Zdv h1] at hk
      exact st.emb.ro k O hk
    · rw [Zbz h1] at hk
      obtain ⟨b, hb, hB⟩ := e.ro k O (by rw [Zbz (hx k h2)]; exact hk)
      refine ⟨b, st.ext k b hb, ?_⟩
      rw [st.frame b.1 (e.lt k b hb)]
      · exact hB
      · intro j d hj hd he
        have : j = k := e.inj j k d b (hlC j hj) (xl k (by rw [hk]; rfl)) hd hb he
        subst this
        rw [hx j h2] at hj
        cases hj
  · -- one of h', one of x
    have mixed : ∀ {k k' : Nat} {b b' : Nat × Nat}, sol (h' k) → sol (x k') → (isC (h' k) = true ∨ isC (x k') = true) → ι' k = some b → ι' k' = some b' → b.1 = b'.1 → k = k' := fun {k k' b b'} h1 h2 hor h3 h4 h5 => by
      obtain ⟨c, hc, hc'⟩ := xι k' (Ze4 h2)
      rw [h4] at hc'; injection hc' with hc'; subst hc'
      cases hk : ι k with
      | some d =>
        have e1 := st.ext k d hk
        rw [h3] at e1; injection e1 with e1; subst e1
        rcases hor with hC | hC
        · exact e.inj k k' b b' (hlC k (st.kind k hC (by rw [hk]; simp))) (xl k' h2) hk hc h5
        · exact (e.inj k' k b' b (xlC k' hC) (hl k (st.alive k h1 (by rw [hk]; simp))) hc hk h5.symm).symm
      | none =>
        rcases st.new k b hk h3 with h6 | ⟨j, d, hj, hd, he⟩
        · have := e.lt k' b' hc
          omega
        · have : j = k' := e.inj j k' d b' (hlC j hj) (xl k' h2) hd hc (he.trans h5)
          subst this
          rw [hx j (Ze4 h2)] at hj
          cases hj
    rcases partsC k h1 with q1 | ⟨_, q1⟩ <;> rcases partsS k' h2 with q2 | ⟨_, q2⟩
    · exact st.emb.inj k k' b b' q1 q2 h3 h4 h5
    · exact mixed (ZeI q1) q2 (.inl q1) h3 h4 h5
    · exact (mixed q2 (ZeI q1) (.inr q1) h4 h3 h5.symm).symm
    · obtain ⟨c, hc, hc'⟩ := xι k (ZbU q1)
      obtain ⟨d, hd, hd'⟩ := xι k' (Ze4 q2)
      rw [h3] at hc'; injection hc' with hc'; subst hc'
      rw [h4] at hd'; injection hd' with hd'; subst hd'
      exact e.inj k k' b b' (xlC k q1) (xl k' q2) hc hd h5
  · intro b base id q hq
    obtain ⟨m1, m2, m3⟩ := st.emb.mks b base id q hq
    refine ⟨m1, m2, fun k d hk hd => ?_⟩
    rcases partsC k hk with q1 | ⟨_, q1⟩
    · exact m3 k d q1 hd
    · obtain ⟨c, hc, hc'⟩ := xι k (ZbU q1)
      rw [hd] at hc'; injection hc' with hc'; subst hc'
      cases hm : ι (ZX b base id) with
      | some q' => exact (e.mks b base id q' hm).2.2 k d (xlC k q1) hc
      | none =>
        rcases st.new _ q hm hq with h6 | ⟨j, c', hj, hc'', he⟩
        · have := e.lt k d hc
          omega
        · intro hdb
          have : j = k := e.inj j k c' d (hlC j hj) (xl k (ZeI q1)) hc'' hc (by omega)
          subst this
          rw [hx j (ZbU q1)] at hj
          cases hj
  · rcases st.new k b h1 h2 with h3 | ⟨j, c, hj, hc⟩
    · exact .inl h3
    · exact .inr ⟨j, c, hlC j hj, hc⟩
  · rcases partsS k h1 with q1 | ⟨_, q1⟩
    · exact hl k (st.alive k q1 h2)
    · exact xl k q1
  · rcases partsC k h1 with q1 | ⟨_, q1⟩
    · exact hlC k (st.kind k q1 h2)
    · exact xlC k q1

end
theorem ZlA (h : Tr AObj) : ∀ (l : List (Nat × Option AObj)) (k : Nat), (Zmp h l).get k = match Zax k l with | some o => o | none => h.get k
  | [], k => rfl
  | x :: l, k => by
    show ((Zmp h l).set x.1 x.2).get k = _
    rw [Tr.get_set]
    unfold Zax
    by_cases hk : k = x.1
    · subst hk
      rw [Zr, Nat.beq_refl]
      rfl
    · rw [Zk hk, ZlA h l k, ZgD (fun e => hk e.symm)]
      rfl
theorem ZiX {α : Type} {k : Nat} {o : α} : ∀ {l : List (Nat × α)}, Zax k l = some o → (k, o) ∈ l
  | [], h => by cases h
  | x :: l, h => by
    unfold Zax at h
    cases hb : Nat.beq x.1 k with
    | true =>
      rw [hb] at h
      injection h with h
      have := Nat.eq_of_beq_eq_true hb
      obtain ⟨a, b⟩ := x
      subst this h
      exact List.mem_cons_self
    | false =>
      rw [hb] at h
      exact List.mem_cons_of_mem _ (ZiX h)
theorem ZmT {pre : List (Nat × AObj)} {n n' : Nat} : ∀ {post : List (Nat × Option AObj)}, ZnN pre n n' post = true → ∀ k o, Zax k post = some o → (Zax k pre).isSome ∨ (o.isSome ∧ n ≤ k ∧ k < n')
  | [], _, k, o, h => by cases h
  | x :: l, hk, k, o, h => by
    simp only [ZnN, Bool.and_eq_true, Bool.or_eq_true] at hk
    unfold Zax at h
    cases hb : Nat.beq x.1 k with
    | true =>
      rw [hb] at h
      injection h with h
      have := Nat.eq_of_beq_eq_true hb
      subst this h
      rcases hk.1 with h1 | ⟨h0, h1, h2⟩
      · exact .inl h1
      · exact .inr ⟨h0, Nat.le_of_ble_eq_true h1, Nat.le_of_ble_eq_true h2⟩
    | false => rw [hb] at h; exact ZmT hk.2 k o h
theorem Zkj {s : St} : ∀ (l : List (Nat × AObj)), s.ob <:+ Zmq s l
  | [] => List.suffix_refl _
  | x :: l => (Zkj l).trans (List.suffix_cons _ _)
theorem ZmU {s : St} : ∀ {l : List (Nat × AObj)} {x : Nat × AObj}, x ∈ l → (AObj.sameAs (s.h.get x.1) x.2, true) ∈ Zmq s l
  | y :: l, x, h => by
    rcases List.mem_cons.1 h with rfl | h
    · exact List.mem_cons_self
    · exact List.mem_cons_of_mem _ (ZmU h)
theorem ZsQ {o : Option AObj} {p : AObj} (h : AObj.sameAs o p = true) : o = some p := by
  unfold AObj.sameAs at h
  split at h
  · rename_i c t c' t'
    cases hb : Nat.beq t t' with
    | true =>
      rw [hb] at h
      rw [Nat.eq_of_beq_eq_true hb, ZU.1 h]
    | false => rw [hb] at h; cases h
  · rename_i c t c' t'
    cases hb : Nat.beq t t' with
    | true =>
      rw [hb] at h
      rw [Nat.eq_of_beq_eq_true hb, ZU.1 h]
    | false => rw [hb] at h; cases h
  · rw [ZU.1 h]
  · rw [ZU.1 h]
  · cases h
theorem Zrr {S : Array Value → List (Nat × AObj) → Value → List (Nat × Option AObj) → Nat → Nat → Prop} {args : Array Value} {pre : List (Nat × AObj)} {u v : Value} {post : List (Nat × Option AObj)} {dn : Nat} {s s' : St} (h : ZkG S args pre u post dn s = some (v, s')) : Up s s' := by
  unfold ZkG at h
  replace h := (Zo h).2
  injection h with h
  injection h with h1 h2
  subst h1 h2
  refine ⟨Nat.le_add_right _ _, (Zkj pre).trans (List.suffix_cons _ _), _, rfl, fun k hk _ => ?_⟩
  show (Zmp s.h post).get k = _
  rw [ZlA]
  cases hl : Zax k post with
  | none => rfl
  | some o => exact absurd (List.mem_map.2 ⟨_, ZiX hl, rfl⟩) hk
theorem Zrs {S : Array Value → List (Nat × AObj) → Value → List (Nat × Option AObj) → Nat → Nat → Prop} {args : Array Value} {pre : List (Nat × AObj)} {u v : Value} {post : List (Nat × Option AObj)} {dn : Nat} {s s' : St} (h : ZqU S args pre u post dn s = some (v, s')) : ZbL u = false ∧ ZkG S args pre u post dn s = some (v, s') := by
  unfold ZqU at h
  split at h
  · cases h
  · exact ⟨by assumption, h⟩
theorem Zx2 {S : Array Value → List (Nat × AObj) → Value → List (Nat × Option AObj) → Nat → Nat → Prop} {args : Array Value} {pre : List (Nat × AObj)} {u v : Value} {post : List (Nat × Option AObj)} {dn : Nat} {s s' : St} (h : ZqU S args pre u post dn s = some (v, s')) : Up s s' := Zrr (Zrs h).2
theorem ZmV {P : Program} {f : FuncId} {S : Array Value → List (Nat × AObj) → Value → List (Nat × Option AObj) → Nat → Nat → Prop} (hS : ∀ args pre v post n dn, S args pre v post n dn → Z3 P f args pre v post n dn) {args args' : Array Value} {pre : List (Nat × AObj)} {u v : Value} {post : List (Nat × Option AObj)} {dn : Nat} {s s' : St} (h : ZkG S args pre u post dn s = some (v, s')) (ho : ∀ p ∈ s'.ob, p.1 = p.2)
    {ι : Ren} {w : World} (ha : VRs ι args args') (he : Emb P ι s.h.get w) (hf : Fresh ι s.n s'.n) : v = u ∧ Calls P f args' w fun e w' => Zms P ι s w v s' e w' ∨ (ZbL v = true ∧ ∃ ι', e = .panicked (Zej v) ∧ Step P ι s.h.get w ι' s'.h.get w' ∧ Dom ι ι' s.n s'.n) := by
  unfold ZkG at h
  obtain ⟨hg, h⟩ := Zo h
  simp only [Bool.and_eq_true] at hg
  injection h with h
  injection h with h1 h2
  subst h1 h2
  have hc := hS _ _ _ _ _ _ (ZU.1 (ho _ List.mem_cons_self))
  have hpre : ∀ k o, Zax k pre = some o → s.h.get k = some o := fun k o hk => ZsQ (ho (AObj.sameAs (s.h.get k) o, true) (List.mem_cons_of_mem _ (ZmU (x := (k, o)) (ZiX hk))))
  let x : AH := fun k => if (Zax k pre).isSome then none else s.h.get k
  have hx : ∀ k, (x k).isSome → (fun k => Zax k pre) k = none := fun k hk => by
    show Zax k pre = none
    cases hl : Zax k pre with
    | none => rfl
    | some o => simp [x, hl] at hk
  have e1 : join (fun k => Zax k pre) x = s.h.get := funext fun k => by
    cases hl : Zax k pre with
    | none => rw [Zbz hl]; simp [x, hl]
    | some o => rw [Zdv (h := fun k => Zax k pre) (by simp [hl])]; simp only [hl]; exact (hpre k o hl).symm
  have e2 : join (behind pre post) x = (Zmp s.h post).get := funext fun k => by
    rw [ZlA]
    cases hl : Zax k post with
    | some o =>
      cases o with
      | some o =>
        have hb : behind pre post k = some o := by unfold behind; rw [hl]
        rw [Zdv (by rw [hb]; rfl), hb]
      | none =>
        have hb : behind pre post k = none := by unfold behind; rw [hl]
        rw [Zbz hb]
        rcases ZmT hg.1 k none hl with h1 | ⟨h1, _⟩
        · simp [x, h1]
        · cases h1
    | none =>
      have hb : behind pre post k = Zax k pre := by unfold behind; rw [hl]
      cases hp : Zax k pre with
      | none => rw [Zbz (by rw [hb, hp])]; simp [x, hp]
      | some o => rw [Zdv (by rw [hb, hp]; rfl), hb, hp]; exact (hpre k o hp).symm
  refine ⟨rfl, (hc ι w args' ha (he.sub fun k o hk => hpre k o hk) hf).mono ?_⟩
  rintro e w' (⟨v', ι', rfl, g1, g2, g3⟩ | ⟨ht, ι', rfl, g1, g2⟩)
  · have := g1.framed (x := x) (by rw [e1]; exact he) hx
    rw [e1, e2] at this
    exact .inl ⟨v', ι', rfl, this, g2, g3⟩
  · have := g1.framed (x := x) (by rw [e1]; exact he) hx
    rw [e1, e2] at this
    exact .inr ⟨ht, ι', rfl, this, g2⟩
theorem Zum {P : Program} {f : FuncId} {S : Array Value → List (Nat × AObj) → Value → List (Nat × Option AObj) → Nat → Nat → Prop} (hS : ∀ args pre v post n dn, S args pre v post n dn → Z3 P f args pre v post n dn) {args args' : Array Value} {pre : List (Nat × AObj)} {u v : Value} {post : List (Nat × Option AObj)} {dn : Nat} {s s' : St} (h : ZqU S args pre u post dn s = some (v, s')) (ho : ∀ p ∈ s'.ob, p.1 = p.2)
    {ι : Ren} {w : World} (ha : VRs ι args args') (he : Emb P ι s.h.get w) (hf : Fresh ι s.n s'.n) : Calls P f args' w (Zms P ι s w v s') := by
  obtain ⟨h1, h2⟩ := Zrs h
  obtain ⟨rfl, h3⟩ := ZmV hS h2 ho ha he hf
  refine h3.mono ?_
  rintro e w' (h4 | ⟨h4, _⟩)
  · exact h4
  · rw [h1] at h4; cases h4
theorem Zc7 (hup : ∀ (f : Nat) (g : Array Value → St → Out), ext f = some (.hp g) → ∀ args s v s', g args s = some (v, s') → Up s s') : ∀ fu : Nat, (∀ nt c T s e T' s', ZaE P ext nt fu c T s = some (e, T', s') → Up s s') ∧ (∀ nt ops l T s T' s', ZgC P ext nt fu ops l T s = some (T', s') → Up s s') ∧
    (∀ ρ o s v s', ZfP P ext fu ρ o s = some (v, s') → Up s s') ∧ (∀ f args s v s', Zfg P ext fu f args s = some (v, s') → Up s s') ∧ (∀ nt ops done l T s es T' s', ZdE P ext nt fu ops done l T s = some (es, T', s') → Up s s') ∧ (∀ xs ρ o s v s' r, Ziy P ext fu xs ρ o s = some (v, s', r) → Up s s') := by
  intro fu
  induction fu with
  | zero => exact ⟨fun _ _ _ _ _ _ _ h => by simp [ZaE] at h, fun _ _ _ _ _ _ _ h => by simp [ZgC, St.keep_eq] at h, fun _ _ _ _ _ h => by simp [ZfP] at h, fun _ _ _ _ _ h => by simp [Zfg] at h, fun _ _ _ _ _ _ _ _ _ h => by simp [ZdE, St.keep_eq] at h, fun _ _ _ _ _ _ _ h => by simp [Ziy] at h⟩
  | succ fu ih =>
    obtain ⟨ihC, ihO, ihP, ihF, ihD, ihE⟩ := ih
    refine ⟨fun nt c T s e T' s' h => ?_, fun nt ops l T s T' s' h => ?_, fun ρ o s v s' h => ?_, fun f args s v s' h => ?_, fun nt ops done l T s es T' s' h => ?_, fun xs ρ o s v s' r h => ?_⟩
    · cases c <;> simp only [ZaE] at h
      case skip => injection h with h; simp only [Prod.mk.injEq] at h; obtain ⟨_, _, rfl⟩ := h; exact Up.refl _
      case label l => injection h with h; simp only [Prod.mk.injEq] at h; obtain ⟨_, _, rfl⟩ := h; exact Up.refl _
      case scope c => exact ihC _ _ _ _ _ _ _ h
      case ret => injection h with h; simp only [Prod.mk.injEq] at h; obtain ⟨_, _, rfl⟩ := h; exact Up.refl _
      case exit id => injection h with h; simp only [Prod.mk.injEq] at h; obtain ⟨_, _, rfl⟩ := h; exact Up.refl _
      case seq a b =>
        split at h
        · exact (ihC _ _ _ _ _ _ _ (by assumption)).trans (ihC _ _ _ _ _ _ _ h)
        · injection h with h; simp only [Prod.mk.injEq] at h; obtain ⟨_, _, rfl⟩ := h; exact ihC _ _ _ _ _ _ _ (by assumption)
        · injection h with h; simp only [Prod.mk.injEq] at h; obtain ⟨_, _, rfl⟩ := h; exact ihC _ _ _ _ _ _ _ (by assumption)
        · cases h
      case cond x a b =>
        split at h
        · split at h
          · exact ihC _ _ _ _ _ _ _ h
          · exact ihC _ _ _ _ _ _ _ h
        · cases h
      case block id a =>
        split at h
        · rename_i i T1 s1 h1
          cases hb : Nat.beq i id <;> rw [hb] at h <;> (injection h with h; simp only [Prod.mk.injEq] at h; obtain ⟨_, _, rfl⟩ := h; exact ihC _ _ _ _ _ _ _ (by assumption))
        · injection h with h; simp only [Prod.mk.injEq] at h; obtain ⟨_, _, rfl⟩ := h; exact ihC _ _ _ _ _ _ _ (by assumption)
        · injection h with h; simp only [Prod.mk.injEq] at h; obtain ⟨_, _, rfl⟩ := h; exact ihC _ _ _ _ _ _ _ (by assumption)
        · cases h
      case loop a =>
        split at h
        · exact (ihC _ _ _ _ _ _ _ (by assumption)).trans (ihC _ _ _ _ _ _ _ h)
        · injection h with h; simp only [Prod.mk.injEq] at h; obtain ⟨_, _, rfl⟩ := h; exact ihC _ _ _ _ _ _ _ (by assumption)
        · injection h with h; simp only [Prod.mk.injEq] at h; obtain ⟨_, _, rfl⟩ := h; exact ihC _ _ _ _ _ _ _ (by assumption)
        · cases h
      case region id ops draw =>
        cases draw with
        | true =>
          simp only [cond_true] at h
          split at h
          · injection h with h; simp only [Prod.mk.injEq] at h; obtain ⟨_, _, rfl⟩ := h; exact ihD _ _ _ _ _ _ _ _ _ (by assumption)
          · cases h
        | false =>
          simp only [cond_false] at h
          split at h
          · injection h with h; simp only [Prod.mk.injEq] at h; obtain ⟨_, _, rfl⟩ := h; exact ihO _ _ _ _ _ _ _ (by assumption)
          · cases h
      all_goals cases h
    · cases l with
      | nil => simp only [ZgC, St.keep_eq] at h; injection h with h; simp only [Prod.mk.injEq] at h; obtain ⟨_, rfl⟩ := h; exact Up.refl _
      | cons o l =>
        simp only [ZgC, St.keep_eq] at h
        replace h := (Zo h).2
        split at h
        · split at h
          · exact (Za4 (by assumption)).trans ((ihP _ _ _ _ _ (by assumption)).trans (ihO _ _ _ _ _ _ _ h))
          · cases h
        · exact (Za4 (by assumption)).trans (ihO _ _ _ _ _ _ _ h)
        · cases h
    · simp only [ZfP] at h
      split at h
      · split at h
        · split at h
          · split at h
            · exact (ZN (by assumption)).trans (Zuh h)
            · cases h
            · exact (ZN (by assumption)).trans (Zvy h)
          · exact Zxz h
          · exact hup _ _ (by assumption) _ _ _ _ h
          · split at h
            · exact (ZN (by assumption)).trans (Zx2 h)
            · cases h
          · exact up_fn h
          · exact ihF _ _ _ _ _ h
        · cases h
      · split at h
        · rename_i v1 s1 h1
          injection h with h
          exact (Zyi h1).trans (Ztt h)
        · cases h
    · simp only [Zfg] at h
      split at h
      · split at h
        · replace h := (Zo h).2
          split at h
          · cases h
          · split at h
            · injection h with h; simp only [Prod.mk.injEq] at h; obtain ⟨_, rfl⟩ := h; exact ihC _ _ _ _ _ _ _ (by assumption)
            · injection h with h; simp only [Prod.mk.injEq] at h; obtain ⟨_, rfl⟩ := h; exact ihC _ _ _ _ _ _ _ (by assumption)
            · cases h
          · cases h
        · cases h
      · cases h
    · cases l with
      | nil => simp only [ZdE, St.keep_eq] at h; injection h with h; simp only [Prod.mk.injEq] at h; obtain ⟨_, _, rfl⟩ := h; exact Up.refl _
      | cons o l =>
        simp only [ZdE, St.keep_eq] at h
        replace h := (Zo h).2
        split at h
        · split at h
          · replace h := (Zo h).2
            exact (Za4 (by assumption)).trans ((ihE _ _ _ _ _ _ _ (by assumption)).trans (ihD _ _ _ _ _ _ _ _ _ h))
          · cases h
        · replace h := (Zo h).2
          exact (Za4 (by assumption)).trans (ihD _ _ _ _ _ _ _ _ _ h)
        · cases h
    · simp only [Ziy] at h
      split at h
      · split at h
        · rename_i v1 s1 h1
          obtain ⟨hg, h⟩ := Zo h
          injection h with h; simp only [Prod.mk.injEq] at h; obtain ⟨_, rfl, _⟩ := h
          have u := ihP _ _ _ _ _ h1
          obtain ⟨l, e1, e2⟩ := u.log
          simp only [List.append_nil] at e1
          refine ⟨u.n, u.ob, l, by rw [e1], fun k hk hn => ?_⟩
          show (Ze2 _ _ _).get k = _
          rw [Zdu]
          split
          · rfl
          · rename_i hm
            rw [e2 k hk hn]
            show (Ze2 _ _ _).get k = _
            rw [Zdu, if_neg hm]
        · cases h
      · replace h := (Zo h).2
        generalize (Zg4 s ρ o).1 = w at h
        generalize (Zg4 s ρ o).2 = t at h
        generalize Zkf ρ o = q at h
        split at h
        · rename_i v1 s1 h1
          obtain ⟨hg, h⟩ := Zo h
          injection h with h; simp only [Prod.mk.injEq] at h; obtain ⟨_, rfl, _⟩ := h
          have u := ihP _ _ _ _ _ h1
          obtain ⟨l, e1, e2⟩ := u.log
          simp only [List.append_nil] at e1
          refine ⟨u.n, u.ob, l, by rw [e1], fun k hk hn => ?_⟩
          show (Tr.set _ _ _).get k = _
          rw [Tr.get_set]
          by_cases hkn : k = s.n
          · subst hkn
            rw [Zr]
            have hn' : ¬ s.n < s1.n := fun e => hn ⟨Nat.le_refl _, e⟩
            have : s1.n = s.n := by have := u.n; simp only at this; omega
            rw [ZiS this]
            rfl
          · rw [Zk hkn]
            cases w with
            | false => rfl
            | true =>
              simp only [cond_true]
              rw [Zdu]
              split
              · rename_i hm
                rw [e2 k hk hn, Zj5, if_pos (List.mem_append_left _ hm)]
              · rfl
        · cases h
end
end Ev
end Go.Proofs.YtlbbiflodemagaaDoor
/- The runner against the model: what it says holds in every world. -/
namespace Go.Proofs.YtlbbiflodemagaaDoor
open Go.RowKit
namespace Ev
section
variable {P : Program} {ext : FuncId → Option Ext}

def Ex.out : Ex → Exit
 | .normal => .normal
 | .exit id => .exit id
 | .ret => .ret
def TR (ι : Ren) (nt : Nat) (D : List Deferred) (T : Tr Value) (a : Act) : Prop := a.tmps.size = nt ∧ a.defers = D ∧ ∀ t, VR ι ((T.get t).getD undef) (a.tmps.getD t undef)
theorem TR.on {ι ι' : Ren} {nt : Nat} {D : List Deferred} {T : Tr Value} {a : Act} (h : TR ι nt D T a) (hi : ∀ k b, ι k = some b → ι' k = some b) : TR ι' nt D T a := ⟨h.1, h.2.1, fun t => (h.2.2 t).ext hi⟩
theorem VR.undef' {ι : Ren} : VR ι undef undef := VR.of_free rfl
theorem TR.put {ι : Ren} {nt : Nat} {D : List Deferred} {T : Tr Value} {a : Act} (h : TR ι nt D T a) {dst : Option Tmp} (hd : Zec nt dst = true) {v v' : Value} (hv : VR ι v v') : TR ι nt D (Zc6 T dst v) (a.put dst v') := by
 cases dst with
 | none => exact h
 | some d =>
  have hlt : d < a.tmps.size := by
   rw [h.1]
   simpa [Zec, Nat.blt_eq] using hd
  refine ⟨by simp [Act.put, h.1], h.2.1, fun t => ?_⟩
  simp only [Zc6, Tr.get_set, Act.put]
  by_cases ht : t = d
  ·subst ht
   rw [Zr]
   simp [Array.getD, hlt]
   exact hv
  ·rw [Zk ht]
   have : (a.tmps.setIfInBounds d v').getD t undef = a.tmps.getD t undef := by
    simp [Array.getD_eq_getD_getElem?, Array.getElem?_setIfInBounds_ne (fun e => ht e.symm)]
   rw [this]
   exact h.2.2 t
def Zc2 (a : Act) : Operand → Value
 | .const v => bif Zbl v then v else undef
 | x => a.eval x
theorem TR.opnd {ι : Ren} {nt : Nat} {D : List Deferred} {T : Tr Value} {a : Act} (h : TR ι nt D T a) (x : Operand) : VR ι (Ev.opnd T x) (Zc2 a x) := by
 cases x with
 | tmp t => exact h.2.2 t
 | const v =>
  simp only [Ev.opnd, Zc2]
  cases hf : Zbl v
  ·exact VR.undef'
  ·exact VR.of_free hf
 | global g => exact .glob rfl
 | func f => exact .atom rfl
theorem Zfk {a : Act} {o : Oper} (hs : ∀ cs b, o.op ≠ .select cs b) (hg : Zw ZfY o.op.operands.toList = true) : execOp (Zc2 a) o = execOp a.eval o :=
 execOp_congr o hs fun x hx => by
  have := Zao hg x (by simpa using hx)
  cases x with
  | const v =>
   simp only [ZfY] at this
   simp [Zc2, this, Act.eval]
  | _ => rfl
theorem ZfH {a : Act} {x : Operand} {t : Bool} (h : Zc2 a x = .bool t) : a.eval x = .bool t := by
 cases x with
 | const v =>
  simp only [Zc2] at h
  cases hf : Zbl v <;> rw [hf] at h
  ·simp [undef] at h
  ·exact h
 | _ => exact h
theorem Zcm {ι : Ren} {T : Tr Value} {a : Act} {ops : Array Oper} {o : Oper} {s s' : St} {b : Bool} (h : ∀ t ∈ o.looksAt ops, VR ι ((T.get t).getD undef) (a.tmps.getD t undef)) (hw : Zeg ops T o s = some (b, s')) :
  Region.wanted o (yielded ops a.tmps) = b ∧ s'.h = s.h ∧ s'.n = s.n := by
 unfold Zeg at hw
 unfold Region.wanted
 split at hw
 ·rename_i hg
  injection hw with hw; injection hw with h1 h2; subst h1 h2
  rw [hg]
  exact ⟨rfl, rfl, rfl⟩
 ·rename_i j want hg
  rw [hg]
  simp only
  split at hw
  ·rename_i d hd
   have hv := h d (by unfold Oper.looksAt; rw [hg]; simp [hd])
   split at hw
   ·rename_i q hq
    rw [hq] at hv
    have hv' := hv.bool_inv
    have hget : a.tmps[d]? = some (.bool q) := by
     simp only [Array.getD_eq_getD_getElem?] at hv'
     cases hx : a.tmps[d]? with
     | none => rw [hx] at hv'; simp [undef] at hv'
     | some u => rw [hx] at hv'; simpa using hv'
    have hy : yielded ops a.tmps j = some q := by
     unfold yielded
     rw [hd]
     simp [hget]
    rw [hy]
    injection hw with hw; injection hw with h1 h2; subst h1 h2
    exact ⟨by cases q <;> cases want <;> rfl, rfl, rfl⟩
   ·rename_i u hq
    injection hw with hw; injection hw with h1 h2; subst h1 h2
    rw [hq] at hv
    refine ⟨?_, rfl, rfl⟩
    have hy : yielded ops a.tmps j = none := by
     unfold yielded
     rw [hd]
     simp only [Option.bind_some]
     split
     ·rename_i c hc
      exfalso
      simp only [Array.getD_eq_getD_getElem?, hc, Option.getD_some] at hv
      cases hv
     ·rfl
    rw [hy]
    rfl
   ·cases hw
  ·cases hw
def Zkk (tmps : Array Value) : ResultVar → Sem Value
 | .tmp t => pure (tmps.getD t undef)
 | .cell b t => do loadVar t (← asAddr (tmps.getD b undef))
theorem Zig {ι : Ren} {nt : Nat} {D : List Deferred} {T : Tr Value} {a : Act} {s : St} {w : World} (h : TR ι nt D T a) (he : Emb P ι s.h.get w) : ∀ (rs : List ResultVar) (l : List Value), ZbT P T s rs = some l →
  ∃ l' : List Value, (rs.mapM (Zkk a.tmps)).run P w = .ok l' w ∧ l.length = l'.length ∧ ∀ (i : Nat) x y, l[i]? = some x → l'[i]? = some y → VR ι x y
 | [], l, hr => by
  simp only [ZbT, Option.some.injEq] at hr
  subst hr
  exact ⟨[], by simp [Sem.run], rfl, fun i x y hx => by simp at hx⟩
 | .tmp t :: rs, l, hr => by
  simp only [ZbT] at hr
  split at hr
  ·rename_i r hr'
   injection hr with hr
   subst hr
   obtain ⟨l', h1, h2, h3⟩ := Zig h he rs r hr'
   refine ⟨a.tmps.getD t undef :: l', ?_, by simp [h2], fun i x y hx hy => ?_⟩
   ·have e0 : (Zkk a.tmps (.tmp t)).run P w = .ok (a.tmps.getD t undef) w := rfl
    simp only [List.mapM_cons, Sem.run_bind, e0, Result.andThen, h1]
    rfl
   ·cases i with
    | zero => simp at hx hy; subst hx hy; simpa using h.2.2 t
    | succ i => exact h3 i x y (by simpa using hx) (by simpa using hy)
  ·cases hr
 | .cell b t :: rs, l, hr => by
  simp only [ZbT] at hr
  split at hr
  ·rename_i k o hb
   split at hr
   ·rename_i u r hu hr'
    injection hr with hr
    subst hr
    obtain ⟨l', h1, h2, h3⟩ := Zig h he rs r hr'
    obtain ⟨bk, v', hbk, hrun, hv⟩ := Zli he hu
    have hp := h.2.2 b
    rw [hb] at hp
    obtain ⟨bk', hbk', hp'⟩ := hp.ptr_inv
    rw [hbk] at hbk'; injection hbk' with hbk'; subst hbk'
    refine ⟨v' :: l', ?_, by simp [h2], fun i x y hx hy => ?_⟩
    ·have e0 : (Zkk a.tmps (.cell b t)).run P w = .ok v' w := by
      simp [Zkk, hp', asAddr, hrun, -Array.getD_eq_getD_getElem?]
     simp only [List.mapM_cons, Sem.run_bind, e0, Result.andThen, h1]
     rfl
    ·cases i with
     | zero => simp at hx hy; subst hx hy; exact hv
     | succ i => exact h3 i x y (by simpa using hx) (by simpa using hy)
   ·cases hr
  ·cases hr
theorem Zga {ι : Ren} {nt : Nat} {D : List Deferred} {T : Tr Value} {a : Act} {s : St} {w : World} {fn : Func} {v : Value} (h : TR ι nt D T a) (he : Emb P ι s.h.get w)
  (hr : (match ZbT P T s fn.results.toList with | some [v] => some v | some vs => some (.tuple vs.toArray) | none => none) = some v) : ∃ v', (results fn a.tmps).run P w = .ok v' w ∧ VR ι v v' := by
 have hR : results fn a.tmps = (do let vs ← fn.results.mapM (Zkk a.tmps); pure (if h : vs.size = 1 then vs[0] else .tuple vs)) := rfl
 cases hx : ZbT P T s fn.results.toList with
 | none => rw [hx] at hr; cases hr
 | some l =>
  rw [hx] at hr
  obtain ⟨l', h1, h2, h3⟩ := Zig h he fn.results.toList l hx
  have hA : (fn.results.mapM (Zkk a.tmps)).run P w = .ok l'.toArray w := by
   rw [Array.mapM_eq_mapM_toList]
   simp [h1]
  rw [hR]
  rcases l with _ | ⟨x, _ | ⟨y, l⟩⟩
  ·injection hr with hr
   subst hr
   have : l' = [] := List.eq_nil_of_length_eq_zero (by simpa using h2.symm)
   subst this
   exact ⟨.tuple #[], by simp [hA], .tuple rfl fun i x y hx => by simp at hx⟩
  ·injection hr with hr
   subst hr
   rcases l' with _ | ⟨x', _ | ⟨y', l'⟩⟩
   ·simp at h2
   ·exact ⟨x', by simp [hA], h3 0 x x' rfl rfl⟩
   ·simp at h2
  ·injection hr with hr
   subst hr
   have hne : ¬ l'.length = 1 := by simp at h2; omega
   exact ⟨.tuple l'.toArray, by simp [hA, hne], .tuple (by simpa using h2) fun i x y hx hy => h3 i x y (by simpa using hx) (by simpa using hy)⟩
end
end Ev
end Go.Proofs.YtlbbiflodemagaaDoor
/- The runner against the model: what it says holds in every world. -/
namespace Go.Proofs.YtlbbiflodemagaaDoor
open Go.RowKit
namespace Ev
section
variable {P : Program} {ext : FuncId → Option Ext}

theorem Zdx {f : FuncId} {fn : Func} {c : Code} (hf : P.funcs[f]? = some fn) (hn : (fn.name == "runtime.NumGoroutine") = false) (hb : fn.body = some c) (args : Array Value) (w : World) :
  (callFunc f args).run P w = .ok (.enter f args) w := by
 have h1 : fn.name ≠ "runtime.NumGoroutine" := by simpa using hn
 simp [callFunc, hf, h1, hb]
theorem Zx3 {ι : Ren} {s : St} {w : World} (he : Emb P ι s.h.get w) {k o : Nat} {kk : IntKind} {v : Int} (h : rowAt s k o 1 = some [.int kk v]) : ∃ b C t, ι k = some b ∧ Cel w.heap[b.1]? C t ∧ w.cell? ⟨b.1, o, none⟩ = some (.int kk v) ∧ w.frozen? ⟨b.1, o, none⟩ = false := by
 obtain ⟨b, C, t, hb, hB, hl, hx⟩ := ZkH he h
 obtain ⟨y, hy, hv⟩ := hx 0 _ rfl
 obtain ⟨fr, hB', hu⟩ := hB.unf
 refine ⟨b, C, t, hb, hB, ?_, Zvb hB' hu (Array.getElem?_eq_some_iff.1 hy).1⟩
 rw [ZqX hB]
 simpa [hv.int_inv] using hy
theorem ZoT {w : World} {b o : Nat} {C : Array Value} {t : TypeId} {x : Value} {fr : Nat × Nat} (hB : w.heap[b]? = some (.cells C t fr)) (ho : o < C.size) : w.setRow b (C.toList.take o ++ [x] ++ C.toList.drop (o + 1)).toArray = w.setCell ⟨b, o, none⟩ x := by
 have e : (C.toList.take o ++ [x] ++ C.toList.drop (o + 1)).toArray = C.setIfInBounds o x := by
  apply Array.ext'
  simp only [Array.toList_setIfInBounds]
  rw [List.set_eq_take_append_cons_drop, if_pos (by simpa using ho)]
  simp
 rw [e]
 unfold World.setRow World.setCell
 congr 1
 apply Array.ext
 ·simp
 ·intro i h1 h2
  simp only [Array.getElem_modify]
  split
  ·rename_i hi
   subst hi
   have hlt : b < w.heap.size := (Array.getElem?_eq_some_iff.1 hB).1
   have : w.heap[b] = .cells C t fr := by
    have := Array.getElem?_eq_getElem hlt
    rw [hB] at this
    exact (Option.some.inj this).symm
   simp [this]
  ·rfl
theorem ZlB {ι : Ren} {s s' : St} {w : World} (he : Emb P ι s.h.get w) {k o : Nat} {x : Int} {kk : IntKind} (h : Zcq s k o [.int kk x] = some s') {b : Nat × Nat} (hb : ι k = some b) :
  Step P ι s.h.get w ι s'.h.get (w.setCell ⟨b.1, o, none⟩ (.int kk x)) ∧ s'.n = s.n := by
 obtain ⟨b2, w', hb2, _, hstep, hn, ⟨C, t, hB, hfit, hw⟩, _⟩ := Zif he (c := #[.int kk x]) h rfl (fun i a b h1 h2 => by
  rcases i with _ | i
  ·simp at h1 h2; subst h1 h2; exact .atom rfl
  ·simp at h1)
 rw [hb] at hb2; injection hb2 with hb2; subst hb2
 have ho : o < C.size := by simp at hfit; omega
 have : w' = w.setCell ⟨b.1, o, none⟩ (.int kk x) := by
  rw [hw]
  obtain ⟨fr, hB', _⟩ := hB.unf
  exact ZoT hB' ho
 rw [← this]
 exact ⟨hstep, hn⟩
theorem Zun (F : Fit P ext) {f n : Nat} (hx : ext f = some (.mark n)) {ι : Ren} {w : World} {s s' : St} {args args' : Array Value} {v : Value} (ha : VRs ι args args') (he : Emb P ι s.h.get w) (h : Zlv n args s = some (v, s')) :
  Res P ((callFunc f args').run P w) s ι w v s' := by
 obtain ⟨fn, hf, hb, hn, hk⟩ := F.mark f n hx
 have hname := F.go f fn hf
 unfold Zlv at h
 split at h
 ·rename_i hargs
  injection h with h; injection h with h1 h2; subst h1 h2
  have hA : args' = #[] := by
   have := ha.1
   rw [← Array.length_toList, hargs] at this
   exact Array.eq_empty_of_size_eq_zero this.symm
  rcases hk with ⟨_, m, hk⟩ | ⟨h, _⟩
  ·exact Res.same he (v' := .tuple #[]) (by rw [hA]; exact run_call_mark0 hf hname hb hn m hk w) (VR.of_free rfl)
  ·omega
 ·rename_i k o hargs
  injection h with h; injection h with h1 h2; subst h1 h2
  have hsz : args'.size = 1 := by rw [← ha.1, ← Array.length_toList, hargs]; rfl
  have h0 : args[0]? = some (.pointer (some ⟨k, o, none⟩)) := by
   have : args.toList[0]? = some (.pointer (some ⟨k, o, none⟩)) := by rw [hargs]; rfl
   simpa using this
  have hv := ha.2 0 _ args'[0] h0 (Array.getElem?_eq_getElem (by omega))
  obtain ⟨b, hb2, hp⟩ := hv.ptr_inv
  have hA : args' = #[.pointer (some ⟨b.1, o, none⟩)] := by
   apply Array.ext (by simpa using hsz)
   intro i h3 h4
   have : i = 0 := by omega
   subst this
   simpa using hp
  rcases hk with ⟨h, _⟩ | ⟨_, m, hk⟩
  ·omega
  ·exact Res.same he (v' := .tuple #[]) (by rw [hA]; exact run_call_marked hf hname hb hn m hk _ w) (VR.of_free rfl)
 ·cases h
theorem ZlC (F : Fit P ext) {f e : Nat} {kk : IntKind} (hx : ext f = some (.at kk e)) {ι : Ren} {w : World} {s s' : St} {args args' : Array Value} {v : Value} (ha : VRs ι args args') (he : Emb P ι s.h.get w) (ho : ∀ p ∈ s'.ob, p.1 = p.2) (h : Zd0 kk e args s = some (v, s')) :
  Res P ((callFunc f args').run P w) s ι w v s' := by
 obtain ⟨fn, hf, hb, hn, hk⟩ := F.ext f kk e hx
 have hname := F.go f fn hf
 clear hx
 have get : ∀ {i : Nat} {x : Value}, args.toList[i]? = some x → ∃ y, args'[i]? = some y ∧ VR ι x y := fun {i x} hi => by
  have hi' : args[i]? = some x := by simpa using hi
  have hlt : i < args'.size := by rw [← ha.1]; exact (Array.getElem?_eq_some_iff.1 hi').1
  exact ⟨args'[i], Array.getElem?_eq_getElem hlt, ha.2 i x _ hi' (Array.getElem?_eq_getElem hlt)⟩
 have arr : ∀ {l : List Value}, args'.size = l.length → (∀ (i : Nat) (y : Value), l[i]? = some y → args'[i]? = some y) → args' = l.toArray := fun {l} h1 h2 => by
  apply Array.ext (by simpa using h1)
  intro i h3 h4
  have := h2 i l[i] (List.getElem?_eq_getElem (by simpa using h4))
  rw [Array.getElem?_eq_getElem h3] at this
  simpa using Option.some.inj this
 unfold Zd0 at h
 split at h
 ·rename_i k o r hargs
  split at h
  ·rename_i ck vv hrow
   split at h
   ·rename_i hck
    subst hck
    obtain ⟨b, C, t, hbk, hB, hc, hz⟩ := Zx3 he hrow
    obtain ⟨y0, hy0, hv0⟩ := get (i := 0) (by rw [hargs]; rfl)
    obtain ⟨b', hb', rfl⟩ := hv0.ptr_inv
    rw [hbk] at hb'; injection hb' with hb'; subst hb'
    have hsz : args'.size = r.length + 1 := by rw [← ha.1, ← Array.length_toList, hargs]; rfl
    split at h
    ·injection h with h; injection h with h1 h2; subst h1 h2
     have hA : args' = #[.pointer (some ⟨b.1, o, none⟩)] := arr (l := [_]) (by simpa using hsz) fun i y hi => by
      rcases i with _ | i
      ·simp at hi; subst hi; exact hy0
      ·simp at hi
     rcases hk with ⟨_, hk⟩ | ⟨h, _⟩ | ⟨h, _⟩ | ⟨h, _⟩ <;> try omega
     exact Res.same he (v' := .int ck vv) (by rw [hA]; exact run_call_load hf hname hb hn _ hk hc) (.atom rfl)
    ·rename_i xk x
     split at h
     ·rename_i hxk
      subst hxk
      split at h
      ·rename_i s1 hw
       injection h with h; injection h with h1 h2; subst h1 h2
       obtain ⟨y1, hy1, hv1⟩ := get (i := 1) (by rw [hargs]; rfl)
       have := hv1.int_inv
       subst this
       have hA : args' = #[.pointer (some ⟨b.1, o, none⟩), .int _ x] := arr (l := [_, _]) (by simpa using hsz) fun i y hi => by
        rcases i with _ | _ | i
        ·simp at hi; subst hi; exact hy0
        ·simp at hi; subst hi; exact hy1
        ·simp at hi
       rcases hk with ⟨h, _⟩ | ⟨_, hk⟩ | ⟨h, _⟩ | ⟨h, _⟩ <;> try omega
       obtain ⟨q1, q2⟩ := ZlB he hw hbk
       exact ⟨_, _, ι, .tuple #[], by rw [hA]; exact run_call_store hf hname hb hn hk hc hz, .inl rfl, q1, q2 ▸ Dom.refl, VR.of_free rfl⟩
      ·cases h
     ·cases h
    ·rename_i xk d
     split at h
     ·rename_i hxk
      subst hxk
      split at h
      ·rename_i s1 hw
       injection h with h; injection h with h1 h2; subst h1 h2
       obtain ⟨y1, hy1, hv1⟩ := get (i := 1) (by rw [hargs]; rfl)
       have := hv1.int_inv
       subst this
       have hA : args' = #[.pointer (some ⟨b.1, o, none⟩), .int _ d] := arr (l := [_, _]) (by simpa using hsz) fun i y hi => by
        rcases i with _ | _ | i
        ·simp at hi; subst hi; exact hy0
        ·simp at hi; subst hi; exact hy1
        ·simp at hi
       rcases hk with ⟨h, _⟩ | ⟨h, _⟩ | ⟨_, hk⟩ | ⟨h, _⟩ <;> try omega
       obtain ⟨q1, q2⟩ := ZlB he hw hbk
       exact ⟨_, _, ι, .int _ _, by rw [hA]; exact run_call_add hf hname hb hn _ hk hc hz (by simp [Op.intArith]), .inl rfl, q1, q2 ▸ Dom.refl, .atom rfl⟩
      ·cases h
     ·cases h
    ·rename_i xk x yk y
     split at h
     ·rename_i hxy
      obtain ⟨hxk, hyk⟩ := hxy
      subst hxk
      subst hyk
      obtain ⟨y1, hy1, hv1⟩ := get (i := 1) (by rw [hargs]; rfl)
      have := hv1.int_inv
      subst this
      obtain ⟨y2, hy2, hv2⟩ := get (i := 2) (by rw [hargs]; rfl)
      have := hv2.int_inv
      subst this
      have hA : args' = #[.pointer (some ⟨b.1, o, none⟩), .int _ x, .int _ y] := arr (l := [_, _, _]) (by simpa using hsz) fun i z hi => by
       rcases i with _ | _ | _ | i
       ·simp at hi; subst hi; exact hy0
       ·simp at hi; subst hi; exact hy1
       ·simp at hi; subst hi; exact hy2
       ·simp at hi
      rcases hk with ⟨h, _⟩ | ⟨h, _⟩ | ⟨h, _⟩ | ⟨_, hk⟩ <;> try omega
      split at h
      ·rename_i s1 hs
       split at h
       ·rename_i s2 hw
        injection h with h; injection h with h1 h2; subst h1 h2
        obtain ⟨e1, e2, e3⟩ := Zl0 hs (ZaG (Zbi hw).ob ho)
        have hvx : vv = x := by simpa using e1.symm
        subst hvx
        obtain ⟨q1, q2⟩ := ZlB (e2 ▸ he) hw hbk
        exact ⟨_, _, ι, .bool true, by rw [hA]; exact run_call_cas_hit hf hname hb hn _ hk hc hz, .inl rfl, e2 ▸ q1, (q2.trans e3) ▸ Dom.refl, .atom rfl⟩
       ·cases h
      ·rename_i s1 hs
       injection h with h; injection h with h1 h2; subst h1 h2
       obtain ⟨e1, e2, e3⟩ := Zl0 hs ho
       have hvx : vv ≠ x := by simpa using e1.symm
       exact Res.heap (s := s1) (Res.same (e2 ▸ he) (v' := .bool false) (by rw [hA]; exact run_call_cas_miss hf hname hb hn _ hk hc hz hvx) (.atom rfl)) e2.symm e3.symm
     ·cases h
    ·cases h
   ·cases h
  ·cases h
 ·cases h
theorem Zuo {kk : IntKind} {e : Nat} {args : Array Value} {z : Int} {c' : List Value} {s s' : St} {v : Value} (hob : ∀ p ∈ s'.ob, p.1 = p.2) (h : ZhC kk e args z c' s = some (v, s')) (hw : s.orc.w = s.orc.w) :
  ∃ s0 s1, Zd0 kk e args s0 = some (v, s1) ∧ s0.h = s.h ∧ s0.n = s.n ∧ s'.h = s1.h ∧ s'.n = s1.n ∧ ∀ p ∈ s1.ob, p.1 = p.2 := by
 unfold ZhC at h
 split at h
 ·rename_i k o r hargs
  split at h
  ·rename_i c t hk
   split at h
   ·injection h with h
    injection h with h1 h2
    subst h1 h2
    have q := ZU.1 (hob (_, true) List.mem_cons_self)
    refine ⟨s, s, ?_, rfl, rfl, rfl, rfl, fun p hp => hob p (List.mem_cons_of_mem _ hp)⟩
    unfold Zd0
    rw [hargs]
    simp only [rowAt, hk, q, if_true]
   ·rename_i xk x
    split at h
    ·rename_i hxk
     subst hxk
     injection h with h
     injection h with h1 h2
     subst h1 h2
     obtain ⟨q, q1, q2⟩ := ZU.1 (hob (_, true) List.mem_cons_self)
     refine ⟨s, s.putK k c' t, ?_, rfl, rfl, rfl, rfl, fun p hp => hob p (List.mem_cons_of_mem _ hp)⟩
     unfold Zd0
     rw [hargs]
     simp only [rowAt, hk, q, if_true, Zcq, List.length_cons, List.length_nil, Nat.zero_add, Nat.ble_eq_true_of_le q1, Zw, ZaZ, Bool.not_false, Bool.true_or, Bool.and_self, cond_true, q2]
    ·cases h
   ·rename_i xk d
    split at h
    ·rename_i hxk
     subst hxk
     injection h with h
     injection h with h1 h2
     subst h1 h2
     obtain ⟨q, q1, q2⟩ := ZU.1 (hob (_, true) List.mem_cons_self)
     refine ⟨s, s.putK k c' t, ?_, rfl, rfl, rfl, rfl, fun p hp => hob p (List.mem_cons_of_mem _ hp)⟩
     unfold Zd0
     rw [hargs]
     simp only [rowAt, hk, q, if_true, Zcq, List.length_cons, List.length_nil, Nat.zero_add, Nat.ble_eq_true_of_le q1, Zw, ZaZ, Bool.not_false, Bool.true_or, Bool.and_self, cond_true, q2]
    ·cases h
   ·rename_i xk x yk y
    split at h
    ·rename_i hxy
     obtain ⟨hxk, hyk⟩ := hxy
     subst hxk
     subst hyk
     generalize hs0 : s.told (dP (Z8 1 (c.drop o) = some [.int _ z])) = s0 at h
     have e0 : s0.h = s.h := by rw [← hs0]; rfl
     have en : s0.n = s.n := by rw [← hs0]; rfl
     have em : (dP (Z8 1 (c.drop o) = some [.int yk z]), true) ∈ s0.ob := by rw [← hs0]; exact List.mem_cons_self
     split at h
     ·rename_i s1 hs
      injection h with h
      injection h with h1 h2
      subst h1 h2
      have ho1 : ∀ p ∈ s1.ob, p.1 = p.2 := fun p hp => hob p (List.mem_cons_of_mem _ hp)
      obtain ⟨q1, q2⟩ := ZU.1 (hob (_, true) List.mem_cons_self)
      obtain ⟨e1, e2, e3⟩ := Zl0 hs ho1
      have q := ZU.1 (ho1 (_, true) ((ZeD hs).ob.subset em))
      refine ⟨s0, s1.putK k c' t, ?_, e0, en, rfl, rfl, ho1⟩
      unfold Zd0
      rw [hargs]
      have hk1 : s1.h.get k = some (.cells c t) := by rw [e2, e0]; exact hk
      simp only [rowAt, e0, hk, q, and_self, if_true, hs, Zcq, hk1, List.length_cons, List.length_nil, Nat.zero_add, Nat.ble_eq_true_of_le q1, Zw, ZaZ, Bool.not_false, Bool.true_or, Bool.and_self, cond_true, q2]
     ·rename_i s1 hs
      injection h with h
      injection h with h1 h2
      subst h1 h2
      have q := ZU.1 (hob (_, true) ((ZeD hs).ob.subset em))
      refine ⟨s0, s1, ?_, e0, en, rfl, rfl, hob⟩
      unfold Zd0
      rw [hargs]
      simp only [rowAt, e0, hk, q, and_self, if_true, hs]
    ·cases h
   ·cases h
  ·cases h
 ·cases h
end
end Ev
end Go.Proofs.YtlbbiflodemagaaDoor
/- A region that draws its order: what is elsewhere stays, and which operations may change places. -/
namespace Go.Proofs.YtlbbiflodemagaaDoor
open Go.RowKit
namespace Ev
section
variable {P : Program} {ext : FuncId → Option Ext}

/-! ### What an operation turns -/
noncomputable def Dk (r : Rec) (k : Nat) : Bool := (r.w && Zly k r.t) || (Nat.ble r.n0 k && Nat.blt k r.n1)
noncomputable def Kof (e : Ent) : AH := if e.r.small then (Zj2 e.s.h (e.r.t ++ e.r.q)).get else (Ze2 .nil e.r.q e.s.h).get
noncomputable def Zrt (e : Ent) : AH := fun k => if Dk e.r k then e.s'.h.get k else Kof e k
theorem ZiY {k : Nat} : ∀ {l : List Nat}, Zly k l = true ↔ k ∈ l
 | [] => by simp [Zly]
 | x :: l => by
  simp only [Zly, Bool.or_eq_true, List.mem_cons, ZiY (l := l)]
  constructor
  ·rintro (h | h)
   ·exact .inl (Nat.eq_of_beq_eq_true h)
   ·exact .inr h
  ·rintro (h | h)
   ·exact .inl (ZiS h)
   ·exact .inr h
theorem Zc3 {a b : List Nat} (h : ZgA a b = true) {k : Nat} (ha : k ∈ a) (hb : k ∈ b) : False := by
 have := Zao h k ha
 rw [ZiY.2 hb] at this
 cases this
theorem ZeJ {n0 n1 : Nat} {l : List Nat} (h : Zkg n0 n1 l = true) {k : Nat} (hk : k ∈ l) (h1 : n0 ≤ k) (h2 : k < n1) : False := by
 have := Zao h k hk
 rw [Nat.ble_eq_true_of_le h1, show Nat.blt k n1 = true from Nat.ble_eq_true_of_le h2] at this
 cases this
theorem Zek {r : Rec} {k : Nat} : Dk r k = true ↔ (r.w = true ∧ k ∈ r.t) ∨ (r.n0 ≤ k ∧ k < r.n1) := by
 unfold Dk
 simp only [Bool.or_eq_true, Bool.and_eq_true, ZiY]
 constructor
 ·rintro (h | ⟨h1, h2⟩)
  ·exact .inl h
  ·exact .inr ⟨Nat.le_of_ble_eq_true h1, Nat.le_of_ble_eq_true h2⟩
 ·rintro (h | ⟨h1, h2⟩)
  ·exact .inl h
  ·exact .inr ⟨Nat.ble_eq_true_of_le h1, Nat.ble_eq_true_of_le h2⟩
structure ZnY (r : Rec) : Prop where
 lt : ∀ k ∈ r.t, k < r.n0
 ltq : ∀ k ∈ r.q, k < r.n0
 le : r.n0 ≤ r.n1
 big : r.small = false → r.w = true
 qt : r.small = false → ∀ k ∈ r.t, k ∉ r.q
noncomputable def Zru (a b : Rec) : Prop := (a.small = true → ∀ k ∈ a.t ++ a.q, Dk b k = false) ∧ (a.small = false → ∀ k, k < a.n0 → k ∉ a.q → Dk b k = false)
theorem ZsR {a b : Rec} (h : ZnO a b = true) (ha : ZnY a) (hb : ZnY b) (hab : a.n1 ≤ b.n0) : Zru a b ∧ Zru b a ∧ ∀ k, Dk a k = true → Dk b k = true → False := by
 have la := ha.le
 have lb := hb.le
 unfold ZnO at h
 have nd : ∀ {r : Rec} {k : Nat}, ¬ ((r.w = true ∧ k ∈ r.t) ∨ (r.n0 ≤ k ∧ k < r.n1)) → Dk r k = false := fun {r k} hn => by
  cases hd : Dk r k
  ·rfl
  ·exact absurd (Zek.1 hd) hn
 split at h
 ·rename_i h1 h2
  simp only [Bool.and_eq_true, Bool.or_eq_true] at h
  obtain ⟨⟨hw, hn⟩, ⟨hq1, hq2⟩, hnq⟩ := h
  have conf : ∀ k, k ∈ a.t → k ∈ b.t → a.w = true ∨ b.w = true → False := fun k k1 k2 k3 => by
   rcases hw with hw | hw
   ·rcases k3 with k3 | k3 <;> rw [k3] at hw <;> simp at hw
   ·exact Zc3 hw k1 k2
  refine ⟨⟨fun _ k hk => nd ?_, fun e => absurd (h1.symm.trans e) (by decide)⟩, ⟨fun _ k hk => nd ?_, fun e => absurd (h2.symm.trans e) (by decide)⟩, fun k k1 k2 => ?_⟩
  ·rcases List.mem_append.1 hk with hk | hk
   ·rintro (⟨q1, q2⟩ | ⟨q1, q2⟩)
    ·exact conf k hk q2 (.inr q1)
    ·have := ha.lt k hk; omega
   ·rintro (⟨q1, q2⟩ | ⟨q1, q2⟩)
    ·rcases hq1 with h | h
     ·rw [q1] at h; simp at h
     ·exact Zc3 h hk q2
    ·have := ha.ltq k hk; omega
  ·rcases List.mem_append.1 hk with hk | hk
   ·rintro (⟨q1, q2⟩ | ⟨q1, q2⟩)
    ·exact conf k q2 hk (.inl q1)
    ·exact ZeJ hn hk q1 q2
   ·rintro (⟨q1, q2⟩ | ⟨q1, q2⟩)
    ·rcases hq2 with h | h
     ·rw [q1] at h; simp at h
     ·exact Zc3 h q2 hk
    ·exact ZeJ hnq hk q1 q2
  ·rcases Zek.1 k1 with ⟨q1, q2⟩ | ⟨q1, q2⟩ <;> rcases Zek.1 k2 with ⟨r1, r2⟩ | ⟨r1, r2⟩
   ·exact conf k q2 r2 (.inl q1)
   ·have := ha.lt k q2; omega
   ·exact ZeJ hn r2 q1 q2
   ·omega
 ·rename_i h1 h2
  simp only [Bool.and_eq_true, Bool.not_eq_true', Bool.or_eq_true] at h
  obtain ⟨⟨⟨hw, hn⟩, hap⟩, haq⟩ := h
  have na : ∀ k, Dk a k = true → (k ∈ b.q ∧ a.n0 ≤ k ∧ k < a.n1 ∧ k ∉ b.t) := fun k hd => by
   rcases Zek.1 hd with ⟨q1, q2⟩ | ⟨q1, q2⟩
   ·rw [hw] at q1; cases q1
   ·rcases hn with hn | ⟨⟨h3, h4⟩, h5⟩
    ·have := Nat.eq_of_beq_eq_true hn; omega
    ·have h4 := Nat.le_of_ble_eq_true h4
     obtain rfl : k = a.n0 := by omega
     exact ⟨ZiY.1 h3, q1, q2, fun hb => ZeJ h5 hb q1 q2⟩
  have nb : ∀ k, k ∉ b.q → Dk a k = false := fun k hk => by
   cases hd : Dk a k
   ·rfl
   ·exact absurd (na k hd).1 hk
  refine ⟨⟨fun _ k hk => nd ?_, fun e => absurd (h1.symm.trans e) (by decide)⟩, ⟨fun e => absurd (h2.symm.trans e) (by decide), fun _ k _ hk => nb k hk⟩, fun k k1 k2 => ?_⟩
  rotate_left
  ·obtain ⟨_, q1, q2, q3⟩ := na k k1
   rcases Zek.1 k2 with ⟨_, r2⟩ | ⟨r1, r2⟩
   ·exact q3 r2
   ·omega
  rcases List.mem_append.1 hk with hk | hk
  ·rintro (⟨q1, q2⟩ | ⟨q1, q2⟩)
   ·exact Zc3 hap hk q2
   ·have := ha.lt k hk; omega
  ·rintro (⟨q1, q2⟩ | ⟨q1, q2⟩)
   ·exact Zc3 haq hk q2
   ·have := ha.ltq k hk; omega
 ·rename_i h1 h2
  simp only [Bool.and_eq_true, Bool.not_eq_true'] at h
  obtain ⟨⟨⟨hw, hap⟩, hn⟩, haq, hnq⟩ := h
  refine ⟨⟨fun e => absurd (h1.symm.trans e) (by decide), fun _ k hk _ => nd ?_⟩, ⟨fun _ k hk => nd ?_, fun e => absurd (h2.symm.trans e) (by decide)⟩, fun k k1 k2 => ?_⟩
  ·rintro (⟨q1, q2⟩ | ⟨q1, q2⟩)
   ·rw [hw] at q1; cases q1
   ·omega
  ·rcases List.mem_append.1 hk with hk | hk
   ·rintro (⟨q1, q2⟩ | ⟨q1, q2⟩)
    ·exact Zc3 hap q2 hk
    ·exact ZeJ hn hk q1 q2
   ·rintro (⟨q1, q2⟩ | ⟨q1, q2⟩)
    ·exact Zc3 haq q2 hk
    ·exact ZeJ hnq hk q1 q2
  ·rcases Zek.1 k2 with ⟨r1, r2⟩ | ⟨r1, r2⟩
   ·rw [hw] at r1; cases r1
   ·rcases Zek.1 k1 with ⟨q1, q2⟩ | ⟨q1, q2⟩
    ·have := ha.lt k q2; omega
    ·omega
 ·cases h
end
end Ev
end Go.Proofs.YtlbbiflodemagaaDoor
/- A region that draws its order: what the run in the text's order tells. -/
namespace Go.Proofs.YtlbbiflodemagaaDoor
open Go.RowKit
namespace Ev
section
variable {P : Program} {ext : FuncId → Option Ext}

structure EntOk (P : Program) (ext : FuncId → Option Ext) (nt fu : Nat) (ops : Array Oper) (before : List Ent) (T T' : Tr Value) (s s' : St) (e : Ent) : Prop where
 eT : e.T = T
 eT' : T' = Zc6 T e.o.dst e.v
 es' : s' = e.s'
 dst : Zec nt e.o.dst = true
 good : Zw ZfY e.o.op.operands.toList = true
 edges : Zkh before.length e.o.after.toList = true
 em : e.m = Zcv before e.o.after.toList
 pairs : ZiA ops e.o e.r e.m 0 before = true
 run : ∃ b, Zeg ops T e.o s = some (b, e.s) ∧ (b = true → ∃ fu', fu' < fu ∧ ∃ xs, Ziy P ext fu' xs (opnd (Zmr T (ZgB e.o.op.operands.toList))) e.o e.s = some (e.v, e.s', e.r)) ∧ (b = false → e.v = undef ∧ e.s' = e.s ∧ e.r = Zie e.s)
theorem EntOk.fuel {nt fu fu1 : Nat} {ops : Array Oper} {before : List Ent} {T T' : Tr Value} {s s' : St} {e : Ent} (h : EntOk P ext nt fu ops before T T' s s' e) (hf : fu ≤ fu1) : EntOk P ext nt fu1 ops before T T' s s' e :=
 ⟨h.eT, h.eT', h.es', h.dst, h.good, h.edges, h.em, h.pairs, by
  obtain ⟨b, h1, h2, h3⟩ := h.run
  exact ⟨b, h1, fun hb => (by obtain ⟨fu', h4, h5⟩ := h2 hb; exact ⟨fu', Nat.lt_of_lt_of_le h4 hf, h5⟩), h3⟩⟩
theorem ZnZ (nt : Nat) (ops : Array Oper) : ∀ (fu : Nat) (l : List Oper) (done : List Ent) (T : Tr Value) (s : St) (es : List Ent) (T' : Tr Value) (s' : St), ZdE P ext nt fu ops done l T s = some (es, T', s') →
  ∃ (es2 : List Ent) (σ : Nat → St) (τ : Nat → Tr Value), es = done ++ es2 ∧ es2.map (·.o) = l ∧ σ 0 = s ∧ τ 0 = T ∧ σ l.length = s' ∧ τ l.length = T' ∧
   ∀ (i : Nat) (e : Ent), es2[i]? = some e → EntOk P ext nt fu ops (done ++ es2.take i) (τ i) (τ (i + 1)) (σ i) (σ (i + 1)) e
 | 0, _, _, _, _, _, _, _, h => by simp [ZdE, St.keep_eq] at h
 | fu + 1, [], done, T, s, es, T', s', h => by
  simp only [ZdE, St.keep_eq] at h
  injection h with h
  simp only [Prod.mk.injEq] at h
  obtain ⟨rfl, rfl, rfl⟩ := h
  exact ⟨[], fun _ => s, fun _ => T, by simp, rfl, rfl, rfl, rfl, rfl, fun i e hi => by simp at hi⟩
 | fu + 1, o :: l, done, T, s, es, T', s', h => by
  simp only [ZdE, St.keep_eq] at h
  obtain ⟨hg, h⟩ := Zo h
  simp only [Bool.and_eq_true] at hg
  have go : ∀ (e1 : Ent), EntOk P ext nt (fu + 1) ops done T (Zc6 T e1.o.dst e1.v) s e1.s' e1 → e1.o = o → ZdE P ext nt fu ops (done ++ [e1]) l (Zc6 T e1.o.dst e1.v) e1.s' = some (es, T', s') →
    ∃ (es2 : List Ent) (σ : Nat → St) (τ : Nat → Tr Value), es = done ++ es2 ∧ es2.map (·.o) = o :: l ∧ σ 0 = s ∧ τ 0 = T ∧ σ (o :: l).length = s' ∧ τ (o :: l).length = T' ∧
     ∀ (i : Nat) (e : Ent), es2[i]? = some e → EntOk P ext nt (fu + 1) ops (done ++ es2.take i) (τ i) (τ (i + 1)) (σ i) (σ (i + 1)) e := fun e1 hok ho hrec => by
   obtain ⟨es2, σ, τ, h1, h2, h3, h4, h5, h6, h7⟩ := ZnZ nt ops fu l _ _ _ es T' s' hrec
   refine ⟨e1 :: es2, fun i => match i with | 0 => s | i + 1 => σ i, fun i => match i with | 0 => T | i + 1 => τ i, by rw [h1]; simp, by simp [h2, ho], rfl, rfl, by simpa using h5, by simpa using h6, fun i e hi => ?_⟩
   cases i with
   | zero =>
    simp at hi
    subst hi
    simp only [List.take_zero, List.append_nil, h3, h4]
    exact hok
   | succ i =>
    have := (h7 i e (by simpa using hi)).fuel (Nat.le_succ fu)
    simpa using this
  split at h
  ·rename_i s1 hw
   split at h
   ·rename_i v s2 r hv
    obtain ⟨hp, h⟩ := Zo h
    exact go ⟨o, Zcv done o.after.toList, r, T, s1, v, s2⟩ ⟨rfl, rfl, rfl, hg.1.1, hg.1.2, hg.2, rfl, hp, true, hw, fun _ => ⟨fu, Nat.lt_succ_self _, _, hv⟩, (fun e => by cases e)⟩ rfl h
   ·cases h
  ·rename_i s1 hw
   obtain ⟨hp, h⟩ := Zo h
   exact go ⟨o, Zcv done o.after.toList, Zie s1, T, s1, undef, s1⟩ ⟨rfl, rfl, rfl, hg.1.1, hg.1.2, hg.2, rfl, hp, false, hw, (fun e => by cases e), fun _ => ⟨rfl, rfl, rfl⟩⟩ rfl h
  ·cases h

/-! ### Which operations stand ahead -/
theorem ZlD {i : Nat} : ∀ {l : List Edge}, Zkh i l = true → ∀ e ∈ l, Region.binds .any e = true → e.on < i
 | [], _, e, he => by cases he
 | d :: l, h, e, he => by
  simp only [Zkh, Bool.and_eq_true, Bool.or_eq_true, Bool.not_eq_true'] at h
  rcases List.mem_cons.1 he with rfl | he
  ·intro hb
   rcases h.1 with h1 | h1
   ·rw [hb] at h1; cases h1
   ·exact Nat.le_of_ble_eq_true h1
  ·exact ZlD h.2 e he
theorem ZjL {before : List Ent} {j : Nat} : ∀ {l : List Edge}, (Zcv before l).testBit j = true → ∃ e ∈ l, Region.binds .any e = true ∧ (e.on = j ∨ ∃ d, before[e.on]? = some d ∧ d.m.testBit j = true)
 | [], h => by simp [Zcv] at h
 | d :: l, h => by
  simp only [Zcv] at h
  cases hb : Region.binds .any d with
  | false =>
   rw [hb] at h
   obtain ⟨e, h1, h2⟩ := ZjL (l := l) (by simpa using h)
   exact ⟨e, List.mem_cons_of_mem _ h1, h2⟩
  | true =>
   rw [hb] at h
   simp only [cond_true, Nat.testBit_or, Bool.or_eq_true] at h
   rcases h with (h | h) | h
   ·rw [Nat.testBit_two_pow] at h
    exact ⟨d, by simp, hb, .inl (by simpa using h)⟩
   ·refine ⟨d, by simp, hb, .inr ?_⟩
    split at h
    ·exact ⟨_, by assumption, h⟩
    ·simp at h
   ·obtain ⟨e, h1, h2⟩ := ZjL (l := l) h
    exact ⟨e, List.mem_cons_of_mem _ h1, h2⟩
theorem ZlE {ops : Array Oper} {o : Oper} {r : Rec} {m : Nat} : ∀ {l : List Ent} {j : Nat}, ZiA ops o r m j l = true → ∀ (i : Nat) (d : Ent), l[i]? = some d → m.testBit (j + i) = true ∨ (Oper.apart ops d.o o = true ∧ ZnO d.r r = true)
 | [], j, _, i, d, hd => by simp at hd
 | x :: l, j, h, i, d, hd => by
  simp only [ZiA, Bool.and_eq_true, Bool.or_eq_true] at h
  cases i with
  | zero =>
   simp at hd
   subst hd
   rcases h.1 with h1 | h1
   ·exact .inl (by simpa using h1)
   ·exact .inr h1
  | succ i =>
   have := ZlE h.2 i d (by simpa using hd)
   rwa [show j + 1 + i = j + (i + 1) by omega] at this
def ZoU (es : List Ent) (L : Nat → Bool) : Prop := ∀ (i : Nat) (e : Ent), es[i]? = some e → L i = true → ∀ d ∈ e.o.after.toList, Region.binds .any d = true → L d.on = true
theorem ZmW {es : List Ent} {L : Nat → Bool} (hc : ZoU es L) (hm : ∀ (i : Nat) (e : Ent), es[i]? = some e → e.m = Zcv (es.take i) e.o.after.toList) {j : Nat} :
  ∀ (i : Nat) (e : Ent), es[i]? = some e → (∀ d ∈ e.o.after.toList, Region.binds .any d = true → L d.on = true) → e.m.testBit j = true → L j = true := by
 intro i
 induction i using Nat.strongRecOn with
 | _ i ih =>
  intro e he hr hb
  rw [hm i e he] at hb
  obtain ⟨d, hd, hbd, h1 | ⟨x, hx, hxb⟩⟩ := ZjL hb
  ·rw [← h1]; exact hr d hd hbd
  ·have hlt : d.on < i := by
    have := (List.getElem?_eq_some_iff.1 hx).1
    rw [List.length_take] at this
    omega
   rw [List.getElem?_take_of_lt hlt] at hx
   exact ih d.on hlt x hx (hc d.on x hx (hr d hd hbd)) hxb
end
end Ev
end Go.Proofs.YtlbbiflodemagaaDoor
/- A region that draws its order: in whatever order its edges allow. -/
namespace Go.Proofs.YtlbbiflodemagaaDoor
open Go.RowKit
namespace Ev
section
variable {β : Type}
noncomputable def ovf (L D : Nat → Bool) (V : Nat → β) (x0 : β) : Nat → β
  | 0 => x0
  | p + 1 => if L p && D p then V p else ovf L D V x0 p
noncomputable def ZcM (L : Nat → Bool) (i : Nat) : Nat → Bool := fun j => if j = i then true else L j
theorem Zj6 {L D : Nat → Bool} {V S : Nat → β} (i n : Nat) (hi : i ≤ n) (hS : ∀ p, p < n → S (p + 1) = if D p then V p else S p) (h1 : ∀ p, p < i → L p = false → D p = false) (h2 : ∀ p, i ≤ p → p < n → L p = true → D p = false) :
    ovf L D V (S 0) n = S i := by
  have A : ∀ p, p ≤ i → ovf L D V (S 0) p = S p := by
    intro p
    induction p with
    | zero => intro _; rfl
    | succ p ih =>
      intro hp
      rw [ovf, ih (by omega), hS p (by omega)]
      cases hL : L p with
      | true => simp
      | false => rw [h1 p (by omega) hL]; simp
  have B : ∀ p, i ≤ p → p ≤ n → ovf L D V (S 0) p = S i := by
    intro p
    induction p with
    | zero => intro h _; obtain rfl : i = 0 := by omega
              rfl
    | succ p ih =>
      intro h hp
      by_cases he : i = p + 1
      · rw [he]; exact A (p + 1) (by omega)
      · rw [ovf, ih (by omega) (by omega)]
        cases hL : L p with
        | true => rw [h2 p (by omega) (by omega) hL]; simp
        | false => simp
  exact B n hi (Nat.le_refl _)
theorem Ztu {L D : Nat → Bool} {V : Nat → β} {x0 : β} (i n : Nat) (hi : i < n) (hL : L i = false) (h : ∀ p, i < p → p < n → L p = true → D p = true → D i = false) :
    ovf (ZcM L i) D V x0 n = if D i then V i else ovf L D V x0 n := by
  have A : ∀ p, p ≤ i → ovf (ZcM L i) D V x0 p = ovf L D V x0 p := by
    intro p
    induction p with
    | zero => intro _; rfl
    | succ p ih =>
      intro hp
      rw [ovf, ovf, ih (by omega)]
      have : ZcM L i p = L p := by unfold ZcM; rw [if_neg (by omega)]
      rw [this]
  have B : ∀ p, i < p → p ≤ n → ovf (ZcM L i) D V x0 p = if D i then V i else ovf L D V x0 p := by
    intro p
    induction p with
    | zero => intro h _; omega
    | succ p ih =>
      intro hp hn
      by_cases he : p = i
      · subst he
        rw [ovf, ovf, A p (Nat.le_refl _), hL]
        have : ZcM L p p = true := by simp [ZcM]
        rw [this]
        simp
      · rw [ovf, ovf, ih (by omega) (by omega)]
        have : ZcM L i p = L p := by unfold ZcM; rw [if_neg he]
        rw [this]
        cases hLp : L p with
        | false => simp
        | true =>
          cases hD : D p with
          | false => simp
          | true => rw [h p (by omega) (by omega) hLp hD]; simp
  exact B n hi (Nat.le_refl _)
end
section
variable {P : Program} {ext : FuncId → Option Ext}

noncomputable def ZjM (es : List Ent) (k p : Nat) : Bool := match es[p]? with | some e => Dk e.r k | none => false
noncomputable def Zrv (es : List Ent) (k p : Nat) : Option AObj := match es[p]? with | some e => e.s'.h.get k | none => none
noncomputable def HL (es : List Ent) (L : Nat → Bool) (s : St) : AH := fun k => ovf L (ZjM es k) (Zrv es k) (s.h.get k) es.length
noncomputable def ZlF (es : List Ent) (t p : Nat) : Bool := match es[p]? with | some e => e.o.dst == some t | none => false
noncomputable def Zrw (es : List Ent) (p : Nat) : Option Value := match es[p]? with | some e => some e.v | none => none
noncomputable def TL (es : List Ent) (L : Nat → Bool) (T : Tr Value) : Nat → Option Value := fun t => ovf L (ZlF es t) (Zrw es) (T.get t) es.length
structure Ctx (P : Program) (ext : FuncId → Option Ext) (nt fu : Nat) (ops : Array Oper) (es : List Ent) (σ : Nat → St) (τ : Nat → Tr Value) : Prop where
  len : es.length = ops.size
  op : ∀ (i : Nat) (e : Ent), es[i]? = some e → ops[i]? = some e.o
  ok : ∀ (i : Nat) (e : Ent), es[i]? = some e → EntOk P ext nt fu ops (es.take i) (τ i) (τ (i + 1)) (σ i) (σ (i + 1)) e
  rok : ∀ (i : Nat) (e : Ent), es[i]? = some e → ZnY e.r ∧ e.r.n0 = (σ i).n ∧ e.r.n1 = (σ (i + 1)).n ∧ (∀ k, Dk e.r k = false → (σ (i + 1)).h.get k = (σ i).h.get k) ∧ e.s.h = (σ i).h
  old : ∀ k, ((σ 0).h.get k).isSome → ¬ ((σ 0).n ≤ k ∧ k < (σ es.length).n)
  sem : ∀ (i : Nat) (e : Ent), es[i]? = some e → ∀ (ι : Ren) (w : World) (a : Act) (K : Act → World → Prop) (Q : Exit → Act → World → Prop), (∀ t ∈ e.o.looksAt ops, VR ι (((τ i).get t).getD undef) (a.tmps.getD t undef)) → Emb P ι (Kof e) w → Fresh ι (σ i).n (σ (i + 1)).n →
    (∀ v' w' ι', Step P ι (Kof e) w ι' (Zrt e) w' → Dom ι ι' (σ i).n (σ (i + 1)).n → VR ι' e.v v' → K (a.put e.o.dst v') w') → wpOp P ops Q i K a w
variable {nt fu : Nat} {ops : Array Oper} {es : List Ent} {σ : Nat → St} {τ : Nat → Tr Value}
theorem Ctx.get (C : Ctx P ext nt fu ops es σ τ) {i : Nat} (hi : i < es.length) : ∃ e, es[i]? = some e := ⟨_, List.getElem?_eq_getElem hi⟩
theorem Ctx.mono (C : Ctx P ext nt fu ops es σ τ) : ∀ {i j : Nat}, i ≤ j → j ≤ es.length → (σ i).n ≤ (σ j).n := by
  intro i j
  induction j with
  | zero => intro h _; obtain rfl : i = 0 := by omega
            exact Nat.le_refl _
  | succ j ih =>
    intro h hj
    by_cases he : i = j + 1
    · subst he; exact Nat.le_refl _
    · obtain ⟨e, hee⟩ := C.get (i := j) (by omega)
      obtain ⟨r1, r2, r3, _⟩ := C.rok j e hee
      have := r1.le
      exact Nat.le_trans (ih (by omega) (by omega)) (by omega)
theorem Ctx.chainH (C : Ctx P ext nt fu ops es σ τ) (k p : Nat) (hp : p < es.length) : (σ (p + 1)).h.get k = if ZjM es k p then Zrv es k p else (σ p).h.get k := by
  obtain ⟨e, he⟩ := C.get hp
  obtain ⟨_, _, _, r4, _⟩ := C.rok p e he
  have hs := (C.ok p e he).es'
  unfold ZjM Zrv
  rw [he]
  simp only
  cases hd : Dk e.r k with
  | true => simp [hs]
  | false => simpa using r4 k hd
theorem Ctx.chainT (C : Ctx P ext nt fu ops es σ τ) (t p : Nat) (hp : p < es.length) : (τ (p + 1)).get t = if ZlF es t p then Zrw es p else (τ p).get t := by
  obtain ⟨e, he⟩ := C.get hp
  have hs := (C.ok p e he).eT'
  unfold ZlF Zrw
  rw [he, hs]
  simp only
  cases hd : e.o.dst with
  | none => simp [Zc6]
  | some d =>
    simp only [Zc6, Tr.get_set]
    by_cases ht : t = d
    · subst ht; simp [Zr]
    · rw [Zk ht]
      have : ((some d : Option Nat) == some t) = false := by simpa using fun e => ht e.symm
      rw [this]
      simp
theorem Ctx.dk_lt (C : Ctx P ext nt fu ops es σ τ) {p k : Nat} {e : Ent} (he : es[p]? = some e) (hd : Dk e.r k = true) : k < (σ (p + 1)).n := by
  obtain ⟨r1, r2, r3, _⟩ := C.rok p e he
  rcases Zek.1 hd with ⟨_, h⟩ | ⟨_, h⟩
  · have := r1.lt k h; have := r1.le; omega
  · omega
theorem Ctx.pair (C : Ctx P ext nt fu ops es σ τ) {i j : Nat} {d e : Ent} (hij : i < j) (hd : es[i]? = some d) (he : es[j]? = some e) : e.m.testBit i = true ∨ (Oper.apart ops d.o e.o = true ∧ Zru d.r e.r ∧ Zru e.r d.r ∧ ∀ k, Dk d.r k = true → Dk e.r k = true → False) := by
  have hj : j < es.length := (List.getElem?_eq_some_iff.1 he).1
  rcases ZlE (C.ok j e he).pairs i d (by rw [List.getElem?_take_of_lt hij]; exact hd) with h | ⟨h1, h2⟩
  · exact .inl (by simpa using h)
  · obtain ⟨r1, r2, r3, _⟩ := C.rok i d hd
    obtain ⟨q1, q2, q3, _⟩ := C.rok j e he
    exact .inr ⟨h1, ZsR h2 r1 q1 (by rw [r3, q2]; exact C.mono (by omega) (by omega))⟩
structure Zmt (es : List Ent) (L : Nat → Bool) (i : Nat) (e : Ent) : Prop where
  at_ : es[i]? = some e
  cl : ZoU es L
  not : L i = false
  deps : ∀ d ∈ e.o.after.toList, Region.binds .any d = true → L d.on = true
theorem Ctx.masks (C : Ctx P ext nt fu ops es σ τ) : ∀ (i : Nat) (e : Ent), es[i]? = some e → e.m = Zcv (es.take i) e.o.after.toList := fun i e he => (C.ok i e he).em
theorem Ctx.loose (C : Ctx P ext nt fu ops es σ τ) {L : Nat → Bool} {i j : Nat} {e d : Ent} (R : Zmt es L i e) (hd : es[j]? = some d) (hne : j < i ∧ L j = false ∨ i < j ∧ L j = true) :
    (∀ t, d.o.dst = some t → t ∉ e.o.looksAt ops) ∧ (∀ t, d.o.dst = some t → e.o.dst ≠ some t) ∧ Zru e.r d.r ∧ ∀ k, Dk d.r k = true → Dk e.r k = true → False := by
  rcases hne with ⟨h1, h2⟩ | ⟨h1, h2⟩
  · rcases C.pair h1 hd R.at_ with h | ⟨g1, g2, g3, g4⟩
    · have := ZmW R.cl C.masks i e R.at_ R.deps h
      rw [h2] at this; cases this
    · obtain ⟨a1, a2, a3⟩ := Oper.apart_spec g1
      exact ⟨a1, a2, g3, g4⟩
  · rcases C.pair h1 R.at_ hd with h | ⟨g1, g2, g3, g4⟩
    · have := ZmW R.cl C.masks j d hd (R.cl j d hd h2) h
      rw [R.not] at this; cases this
    · obtain ⟨a1, a2, a3⟩ := Oper.apart_spec g1
      exact ⟨a3, fun t ht he => a2 t he ht, g2, fun k k1 k2 => g4 k k2 k1⟩
theorem Ctx.live (C : Ctx P ext nt fu ops es σ τ) : ∀ (i : Nat), i ≤ es.length → ∀ k, ((σ i).h.get k).isSome → ¬ ((σ i).n ≤ k ∧ k < (σ es.length).n) := by
  intro i
  induction i with
  | zero => intro _ k hk; exact C.old k hk
  | succ i ih =>
    intro hi k hk
    obtain ⟨e, he⟩ := C.get (i := i) (by omega)
    rw [C.chainH k i (by omega)] at hk
    have hd : ZjM es k i = Dk e.r k := by unfold ZjM; rw [he]
    rw [hd] at hk
    cases hdk : Dk e.r k with
    | true => have := C.dk_lt he hdk; omega
    | false =>
      rw [hdk] at hk
      have := ih (by omega) k (by simpa using hk)
      have := C.mono (i := i) (j := i + 1) (by omega) hi
      omega
theorem Ctx.agreeH (C : Ctx P ext nt fu ops es σ τ) {L : Nat → Bool} {i : Nat} {e : Ent} (R : Zmt es L i e) (k : Nat) (h1 : e.r.small = true → k ∈ e.r.t ++ e.r.q) (h2 : e.r.small = false → ¬ ((σ i).n ≤ k ∧ k < (σ es.length).n)) (h3 : e.r.small = false → k ∉ e.r.q) : HL es L (σ 0) k = (σ i).h.get k := by
  have hi : i < es.length := (List.getElem?_eq_some_iff.1 R.at_).1
  have key : ∀ p, p < es.length → (p < i ∧ L p = false ∨ i < p ∧ L p = true) → ZjM es k p = false := fun p hp hh => by
    obtain ⟨d, hd⟩ := C.get hp
    obtain ⟨_, _, g3, _⟩ := C.loose R hd hh
    unfold ZjM
    rw [hd]
    simp only
    cases hs : e.r.small with
    | true => exact g3.1 hs k (h1 hs)
    | false =>
      by_cases hk : k < e.r.n0
      · exact g3.2 hs k hk (h3 hs)
      · cases hdk : Dk d.r k with
        | false => rfl
        | true =>
          exfalso
          have q := C.dk_lt hd hdk
          have := C.mono (i := p + 1) (j := es.length) (by omega) (Nat.le_refl _)
          have := (C.rok i e R.at_).2.1
          exact h2 hs ⟨by omega, by omega⟩
  exact Zj6 (S := fun p => (σ p).h.get k) i es.length (by omega) (fun p hp => C.chainH k p hp) (fun p hp hL => key p (by omega) (.inl ⟨hp, hL⟩)) (fun p hp hn hL => by
    by_cases he : p = i
    · subst he; rw [R.not] at hL; cases hL
    · exact key p hn (.inr ⟨by omega, hL⟩))
theorem Ctx.agreeT (C : Ctx P ext nt fu ops es σ τ) {L : Nat → Bool} {i : Nat} {e : Ent} (R : Zmt es L i e) (t : Nat) (ht : t ∈ e.o.looksAt ops) : TL es L (τ 0) t = (τ i).get t := by
  have hi : i < es.length := (List.getElem?_eq_some_iff.1 R.at_).1
  have key : ∀ p, p < es.length → (p < i ∧ L p = false ∨ i < p ∧ L p = true) → ZlF es t p = false := fun p hp hh => by
    obtain ⟨d, hd⟩ := C.get hp
    obtain ⟨g1, _⟩ := C.loose R hd hh
    unfold ZlF
    rw [hd]
    simp only
    cases hb : d.o.dst == some t with
    | false => rfl
    | true => exact absurd ht (g1 t (by simpa using hb))
  exact Zj6 (S := fun p => (τ p).get t) i es.length (by omega) (fun p hp => C.chainT t p hp) (fun p hp hL => key p (by omega) (.inl ⟨hp, hL⟩)) (fun p hp hn hL => by
    by_cases he : p = i
    · subst he; rw [R.not] at hL; cases hL
    · exact key p hn (.inr ⟨by omega, hL⟩))
theorem Ctx.addH (C : Ctx P ext nt fu ops es σ τ) {L : Nat → Bool} {i : Nat} {e : Ent} (R : Zmt es L i e) (k : Nat) : HL es (ZcM L i) (σ 0) k = if Dk e.r k then e.s'.h.get k else HL es L (σ 0) k := by
  have hi : i < es.length := (List.getElem?_eq_some_iff.1 R.at_).1
  have := Ztu (D := ZjM es k) (V := Zrv es k) (x0 := (σ 0).h.get k) i es.length hi R.not fun p hp hn hL hD => by
    obtain ⟨d, hd⟩ := C.get hn
    obtain ⟨_, _, _, g4⟩ := C.loose R hd (.inr ⟨hp, hL⟩)
    unfold ZjM at hD ⊢
    rw [hd] at hD
    rw [R.at_]
    simp only at hD ⊢
    cases hdk : Dk e.r k with
    | false => rfl
    | true => exact (g4 k hD hdk).elim
  unfold HL
  rw [this]
  unfold ZjM Zrv
  rw [R.at_]
theorem Ctx.addT (C : Ctx P ext nt fu ops es σ τ) {L : Nat → Bool} {i : Nat} {e : Ent} (R : Zmt es L i e) (t : Nat) : TL es (ZcM L i) (τ 0) t = if e.o.dst = some t then some e.v else TL es L (τ 0) t := by
  have hi : i < es.length := (List.getElem?_eq_some_iff.1 R.at_).1
  have := Ztu (D := ZlF es t) (V := Zrw es) (x0 := (τ 0).get t) i es.length hi R.not fun p hp hn hL hD => by
    obtain ⟨d, hd⟩ := C.get hn
    obtain ⟨_, g2, _⟩ := C.loose R hd (.inr ⟨hp, hL⟩)
    unfold ZlF at hD ⊢
    rw [hd] at hD
    rw [R.at_]
    simp only at hD ⊢
    cases hdk : e.o.dst == some t with
    | false => rfl
    | true => exact absurd (by simpa using hdk) (g2 t (by simpa using hD))
  unfold TL
  rw [this]
  unfold ZlF Zrw
  rw [R.at_]
  simp only
  by_cases hb : e.o.dst = some t
  · simp [hb]
  · have : (e.o.dst == some t) = false := by simpa using hb
    rw [this, if_neg hb]
    simp
end
end Ev
end Go.Proofs.YtlbbiflodemagaaDoor
/- A region that draws its order: any order comes to the same. -/
namespace Go.Proofs.YtlbbiflodemagaaDoor
open Go.RowKit
namespace Ev
section
variable {P : Program} {ext : FuncId → Option Ext}

theorem ZlG {ops : Array Oper} {listed : Array Bool} (hs : listed.size = ops.size) {i : Nat} : i ∈ Region.ready .any ops listed ↔ ∃ o, ops[i]? = some o ∧ listed.getD i false = false ∧ ∀ d ∈ o.after.toList, Region.binds .any d = true → listed.getD d.on false = true := by
 unfold Region.ready
 rw [List.mem_filter]
 simp only [List.mem_range, Bool.and_eq_true, Bool.not_eq_true']
 constructor
 ·rintro ⟨hi, h1, h2⟩
  have ho : ops[i]? = some ops[i] := Array.getElem?_eq_getElem hi
  rw [ho] at h2
  simp only [Option.map_some, Option.getD_some, Array.all_eq_true', Bool.or_eq_true, Bool.not_eq_true'] at h2
  refine ⟨ops[i], ho, ?_, fun d hd hb => ?_⟩
  ·have hl : i < listed.size := by omega
   simpa [Array.getD, hl] using h1
  ·rcases h2 d (by simpa using hd) with h | h
   ·rw [hb] at h; cases h
   ·exact h
 ·rintro ⟨o, ho, h1, h2⟩
  have hi : i < ops.size := (Array.getElem?_eq_some_iff.1 ho).1
  have hl : i < listed.size := by omega
  refine ⟨hi, by simpa [Array.getD, hl] using h1, ?_⟩
  rw [ho]
  simp only [Option.map_some, Option.getD_some, Array.all_eq_true', Bool.or_eq_true, Bool.not_eq_true']
  intro d hd
  cases hb : Region.binds .any d with
  | false => exact .inl rfl
  | true => exact .inr (h2 d (by simpa using hd) hb)
def cnt (L : Nat → Bool) : Nat → Nat
 | 0 => 0
 | p + 1 => cnt L p + if L p then 0 else 1
theorem Ztv {L : Nat → Bool} {i : Nat} (hL : L i = false) : ∀ p, (p ≤ i → cnt (ZcM L i) p = cnt L p) ∧ (i < p → cnt (ZcM L i) p + 1 = cnt L p)
 | 0 => ⟨fun _ => rfl, fun h => by omega⟩
 | p + 1 => by
  obtain ⟨h1, h2⟩ := Ztv hL p
  refine ⟨fun h => ?_, fun h => ?_⟩
  ·have : ZcM L i p = L p := by unfold ZcM; rw [if_neg (by omega)]
   rw [cnt, cnt, h1 (by omega), this]
  ·by_cases he : p = i
   ·subst he
    have : ZcM L p p = true := by simp [ZcM]
    rw [cnt, cnt, h1 (Nat.le_refl _), this, hL]
    simp
   ·have : ZcM L i p = L p := by unfold ZcM; rw [if_neg he]
    rw [cnt, cnt, this]
    have := h2 (by omega)
    omega
theorem Zrx {L : Nat → Bool} : ∀ p, cnt L p = 0 → ∀ j, j < p → L j = true
 | 0, _, j, hj => by omega
 | p + 1, h, j, hj => by
  rw [cnt] at h
  by_cases he : j = p
  ·subst he
   cases hL : L j with
   | true => rfl
   | false => rw [hL] at h; simp at h
  ·exact Zrx p (by omega) j (by omega)
theorem Zns {a : Act} {dst : Option Tmp} {nt : Nat} (hs : a.tmps.size = nt) (hd : Zec nt dst = true) (v : Value) (t : Nat) : (a.put dst v).tmps.getD t undef = if dst = some t then v else a.tmps.getD t undef := by
 cases dst with
 | none => simp [Act.put]
 | some d =>
  have hlt : d < a.tmps.size := by rw [hs]; simpa [Zec, Nat.blt_eq] using hd
  simp only [Act.put]
  by_cases ht : d = t
  ·subst ht
   simp [Array.getD, hlt]
  ·have : ¬ (some d = some t) := by simpa using ht
   rw [if_neg this]
   simp [Array.getD_eq_getD_getElem?, Array.getElem?_setIfInBounds_ne ht]
variable {nt fu : Nat} {ops : Array Oper} {es : List Ent} {σ : Nat → St} {τ : Nat → Tr Value}
structure Inv (P : Program) (nt : Nat) (D : List Deferred) (es : List Ent) (σ : Nat → St) (τ : Nat → Tr Value) (ι0 : Ren) (w0 : World) (L : Nat → Bool) (a : Act) (w : World) (ι : Ren) : Prop where
 step : Step P ι0 (σ 0).h.get w0 ι (HL es L (σ 0)) w
 dom : ∀ k, ι k ≠ none → ι0 k ≠ none ∨ far ≤ k ∨ ∃ j, L j = true ∧ j < es.length ∧ (σ j).n ≤ k ∧ k < (σ (j + 1)).n
 size : a.tmps.size = nt
 defers : a.defers = D
 temps : ∀ t, VR ι ((TL es L (τ 0) t).getD undef) (a.tmps.getD t undef)
theorem Ctx.order {D : List Deferred} (C : Ctx P ext nt fu ops es σ τ) {ι0 : Ren} {w0 : World} (hf : Fresh ι0 (σ 0).n (σ es.length).n) {Q : Exit → Act → World → Prop}
  (hQ : ∀ ι a w, Step P ι0 (σ 0).h.get w0 ι (σ es.length).h.get w → Dom ι0 ι (σ 0).n (σ es.length).n → TR ι nt D (τ es.length) a → Q .normal a w) :
  ∀ (fuel : Nat) (listed : Array Bool) (a : Act) (w : World) (ι : Ren), listed.size = ops.size → cnt (fun j => listed.getD j false) es.length ≤ fuel → ZoU es (fun j => listed.getD j false) → Inv P nt D es σ τ ι0 w0 (fun j => listed.getD j false) a w ι →
   wpAny P .any ops Q fuel listed a w := by
 -- all are listed
 have fin : ∀ (listed : Array Bool) (a : Act) (w : World) (ι : Ren), (∀ j, j < es.length → listed.getD j false = true) → Inv P nt D es σ τ ι0 w0 (fun j => listed.getD j false) a w ι → Q .normal a w := fun listed a w ι hall I => by
  have hH : HL es (fun j => listed.getD j false) (σ 0) = (σ es.length).h.get := funext fun k =>
   Zj6 (S := fun p => (σ p).h.get k) es.length es.length (Nat.le_refl _) (fun p hp => C.chainH k p hp) (fun p hp hL => by rw [hall p hp] at hL; cases hL) (fun p h1 h2 => by omega)
  have hT : ∀ t, TL es (fun j => listed.getD j false) (τ 0) t = (τ es.length).get t := fun t =>
   Zj6 (S := fun p => (τ p).get t) es.length es.length (Nat.le_refl _) (fun p hp => C.chainT t p hp) (fun p hp hL => by rw [hall p hp] at hL; cases hL) (fun p h1 h2 => by omega)
  refine hQ ι a w (hH ▸ I.step) (fun k hk => ?_) ⟨I.size, I.defers, fun t => hT t ▸ I.temps t⟩
  rcases I.dom k hk with h | h | ⟨j, _, hj, h1, h2⟩
  ·exact .inl h
  ·exact .inr (.inr h)
  ·have := C.mono (i := 0) (j := j) (by omega) (by omega)
   have := C.mono (i := j + 1) (j := es.length) (by omega) (Nat.le_refl _)
   exact .inr (.inl ⟨by omega, by omega⟩)
 have none_ready : ∀ (listed : Array Bool), listed.size = ops.size → Region.ready .any ops listed = [] → ∀ j, j < es.length → listed.getD j false = true := fun listed hs hr => by
  intro j
  induction j using Nat.strongRecOn with
  | _ j ih =>
   intro hj
   obtain ⟨e, he⟩ := C.get hj
   cases hL : listed.getD j false with
   | true => rfl
   | false =>
    exfalso
    have hm : j ∈ Region.ready .any ops listed := (ZlG hs).2 ⟨e.o, C.op j e he, hL, fun d hd hb => by
     have := ZlD (C.ok j e he).edges d hd hb
     rw [List.length_take] at this
     exact ih d.on (by omega) (by omega)⟩
    rw [hr] at hm
    cases hm
 intro fuel
 induction fuel with
 | zero =>
  intro listed a w ι hs hc _ I
  have hall := Zrx es.length (by omega : cnt (fun j => listed.getD j false) es.length = 0)
  refine ⟨?_, fin listed a w ι hall I⟩
  cases hr : Region.ready .any ops listed with
  | nil => rfl
  | cons i l =>
   obtain ⟨o, ho, h1, _⟩ := (ZlG hs).1 (show i ∈ Region.ready .any ops listed by rw [hr]; simp)
   have hi : i < es.length := by rw [C.len]; exact (Array.getElem?_eq_some_iff.1 ho).1
   have := hall i hi
   rw [h1] at this
   cases this
 | succ fuel ih =>
  intro listed a w ι hs hc hcl I
  refine ⟨fun hr => fin listed a w ι (none_ready listed hs hr) I, fun i hi => ?_⟩
  obtain ⟨o, ho, h1, h2⟩ := (ZlG hs).1 hi
  have hin : i < es.length := by rw [C.len]; exact (Array.getElem?_eq_some_iff.1 ho).1
  obtain ⟨e, he⟩ := C.get hin
  have heo : e.o = o := by have := C.op i e he; rw [ho] at this; exact (Option.some.inj this).symm
  subst heo
  have R : Zmt es (fun j => listed.getD j false) i e := ⟨he, hcl, h1, h2⟩
  obtain ⟨rk, rn0, rn1, _, rsh⟩ := C.rok i e he
  have hK : ∀ k o', Kof e k = some o' → HL es (fun j => listed.getD j false) (σ 0) k = some o' := fun k o' hk => by
   unfold Kof at hk
   split at hk
   ·rename_i hsm
    rw [Zj5] at hk
    split at hk
    ·rename_i hm
     rw [C.agreeH R k (fun _ => hm) (fun e => by rw [hsm] at e; cases e) (fun e => by rw [hsm] at e; cases e)]
     rw [← rsh]; exact hk
    ·cases hk
   ·rename_i hsm
    rw [rsh, Zdu] at hk
    split at hk
    ·rw [Tr.get_nil] at hk; cases hk
    ·rename_i hm
     rw [C.agreeH R k (fun e => absurd e hsm) (fun _ => C.live i (by omega) k (by rw [hk]; rfl)) (fun _ => hm)]
     exact hk
  have hfr : Fresh ι (σ i).n (σ (i + 1)).n := ⟨Nat.le_trans (C.mono (i := i + 1) (j := es.length) (by omega) (Nat.le_refl _)) hf.1, fun k k1 k2 => by
   cases hk : ι k with
   | none => rfl
   | some c =>
    exfalso
    have m1 := C.mono (i := 0) (j := i) (by omega) (by omega)
    have m2 := C.mono (i := i + 1) (j := es.length) (by omega) (Nat.le_refl _)
    rcases I.dom k (by rw [hk]; simp) with h | h | ⟨j, hj, hjn, q1, q2⟩
    ·exact h (hf.2 k (by omega) (by omega))
    ·have := hf.1; omega
    ·by_cases hji : j = i
     ·subst hji
      have hj' : listed.getD j false = true := hj
      rw [h1] at hj'; cases hj'
     ·rcases Nat.lt_or_ge j i with h | h
      ·have := C.mono (i := j + 1) (j := i) (by omega) (by omega); omega
      ·have := C.mono (i := i + 1) (j := j) (by omega) (by omega); omega⟩
  have hil : i < listed.size := by rw [hs, ← C.len]; exact hin
  have hL' : (fun j => (listed.setIfInBounds i true).getD j false) = ZcM (fun j => listed.getD j false) i := funext fun j => by
   unfold ZcM
   by_cases hj : j = i
   ·subst hj; simp [Array.getD, hil]
   ·rw [if_neg hj]
    simp [Array.getD_eq_getD_getElem?, Array.getElem?_setIfInBounds_ne (fun e => hj e.symm)]
  refine C.sem i e he ι w a _ Q (fun t ht => ?_) (I.step.emb.sub hK) hfr fun v' w' ι' st dm hv => ?_
  ·rw [← C.agreeT R t ht]
   exact I.temps t
  ·-- the others stay
   have hX1 : join (Kof e) (fun k => if (Kof e k).isSome then none else HL es (fun j => listed.getD j false) (σ 0) k) = HL es (fun j => listed.getD j false) (σ 0) := funext fun k => by
    cases hk : Kof e k with
    | some o' => rw [Zdv (by rw [hk]; rfl), hk, hK k o' hk]
    | none => rw [Zbz hk, hk]; rfl
   have hX2 : join (Zrt e) (fun k => if (Kof e k).isSome then none else HL es (fun j => listed.getD j false) (σ 0) k) = HL es (ZcM (fun j => listed.getD j false) i) (σ 0) := funext fun k => by
    rw [C.addH R k]
    unfold join Zrt
    cases hd : Dk e.r k with
    | false =>
     simp only [Bool.false_eq_true, if_false]
     cases hk : Kof e k with
     | some o' => exact (hK k o' hk).symm
     | none => rfl
    | true =>
     simp only [if_true]
     cases hs' : e.s'.h.get k with
     | some o' => rfl
     | none =>
      simp only
      split
      ·rfl
      ·rename_i hn
       have hkn : Kof e k = none := by
        cases hk : Kof e k with
        | none => rfl
        | some o' => rw [hk] at hn; exact absurd rfl hn
       rcases Zek.1 hd with ⟨q1, q2⟩ | ⟨q1, q2⟩
       ·have hlt := rk.lt k q2
        rw [C.agreeH R k (fun _ => List.mem_append_left _ q2) (fun _ => by omega) (fun hs => rk.qt hs k q2)]
        unfold Kof at hkn
        split at hkn
        ·rw [Zj5, if_pos (List.mem_append_left _ q2), rsh] at hkn; exact hkn
        ·rename_i hsm
         rw [rsh, Zdu, if_neg (rk.qt (by simpa using hsm) k q2)] at hkn; exact hkn
       ·cases hx : HL es (fun j => listed.getD j false) (σ 0) k with
        | none => rfl
        | some o' =>
         obtain ⟨b, hb⟩ := I.step.emb.live (k := k) (by rw [hx]; rfl)
         have := hfr.2 k (by omega) (by omega)
         rw [this] at hb
         cases hb
   have fr := Step.framed st (x := fun k => if (Kof e k).isSome then none else HL es (fun j => listed.getD j false) (σ 0) k) (by rw [hX1]; exact I.step.emb) (fun k hk => by
    cases hkk : Kof e k with
    | none => rfl
    | some o' => simp only [hkk] at hk; simp at hk)
   rw [hX1, hX2] at fr
   have hdst := (C.ok i e he).dst
   refine ih (listed.setIfInBounds i true) _ w' ι' (by simpa using hs) ?_ ?_ ?_
   ·rw [hL']
    have := (Ztv (L := fun j => listed.getD j false) (i := i) h1 es.length).2 hin
    omega
   ·rw [hL']
    intro j d hd hj x hx hb
    unfold ZcM at hj ⊢
    split
    ·rfl
    ·by_cases hji : j = i
     ·subst hji
      rw [he] at hd; injection hd with hd; subst hd
      exact h2 x hx hb
     ·rw [if_neg hji] at hj
      exact hcl j d hd hj x hx hb
   ·rw [hL']
    refine ⟨I.step.trans fr, fun k hk => ?_, ?_, ?_, fun t => ?_⟩
    ·rcases dm k hk with h | ⟨q1, q2⟩ | h
     ·rcases I.dom k h with h | h | ⟨j, hj, hjn, q1, q2⟩
      ·exact .inl h
      ·exact .inr (.inl h)
      ·exact .inr (.inr ⟨j, by unfold ZcM; split <;> first | rfl | exact hj, hjn, q1, q2⟩)
     ·exact .inr (.inr ⟨i, by simp [ZcM], hin, q1, q2⟩)
     ·exact .inr (.inl h)
    ·have := I.size
     cases e.o.dst <;> simp [Act.put, this]
    ·have := I.defers
     cases e.o.dst <;> simp [Act.put, this]
    ·rw [C.addT R t, Zns I.size hdst]
     by_cases hdt : e.o.dst = some t
     ·rw [if_pos hdt, if_pos hdt]; exact hv
     ·rw [if_neg hdt, if_neg hdt]; exact (I.temps t).ext fr.ext
end
end Ev
end Go.Proofs.YtlbbiflodemagaaDoor
/- A region that draws its order: from the run in the text's order to any order. -/
namespace Go.Proofs.YtlbbiflodemagaaDoor
open Go.RowKit
namespace Ev
section
variable {P : Program} {ext : FuncId → Option Ext}

noncomputable def SOp (P : Program) (ext : FuncId → Option Ext) (fu : Nat) : Prop :=
  ∀ (ρ ρ' : Operand → Value) (o : Oper) (s : St) (v : Value) (s' : St), ZfP P ext fu ρ o s = some (v, s') → (∀ p ∈ s'.ob, p.1 = p.2) → ∀ (ι : Ren) (w : World), (∀ x, VR ι (ρ x) (ρ' x)) → Emb P ι s.h.get w → Fresh ι s.n s'.n →
    ∀ (a : Act) (K : Act → World → Prop) (Q : Exit → Act → World → Prop), execOp a.eval o = execOp ρ' o → (∀ v' w' ι', Step P ι s.h.get w ι' s'.h.get w' → Dom ι ι' s.n s'.n → VR ι' v v' → K (a.put o.dst v') w') → o.wp P a w K Q
noncomputable def K0 (r : Rec) (s : St) : AH := if r.small then (Zj2 s.h (r.t ++ r.q)).get else (Ze2 .nil r.q s.h).get
theorem ZfI {n k : Nat} : ∀ {l : List Nat}, k ∈ ZiR n l ↔ k ∈ l ∧ k < n
  | [] => by simp [ZiR]
  | x :: l => by
    simp only [ZiR]
    cases hx : Nat.blt x n with
    | true =>
      have : x < n := Nat.le_of_ble_eq_true hx
      simp only [cond_true, List.mem_cons, ZfI (l := l)]
      constructor
      · rintro (rfl | ⟨h1, h2⟩)
        · exact ⟨.inl rfl, this⟩
        · exact ⟨.inr h1, h2⟩
      · rintro ⟨rfl | h1, h2⟩
        · exact .inl rfl
        · exact .inr ⟨h1, h2⟩
    | false =>
      have : ¬ x < n := fun e => by rw [show Nat.blt x n = true from Nat.ble_eq_true_of_le e] at hx; cases hx
      simp only [cond_false, List.mem_cons, ZfI (l := l)]
      constructor
      · rintro ⟨h1, h2⟩; exact ⟨.inr h1, h2⟩
      · rintro ⟨rfl | h1, h2⟩
        · exact absurd h2 this
        · exact ⟨h1, h2⟩
theorem ZpU (F : Fit P ext) {fu : Nat} {xs : List Nat} {ρ : Operand → Value} {o : Oper} {s s' : St} {v : Value} {r : Rec} (h : Ziy P ext (fu + 1) xs ρ o s = some (v, s', r)) :
    ZnY r ∧ r.n0 = s.n ∧ r.n1 = s'.n ∧ (∀ k, Dk r k = false → s'.h.get k = s.h.get k) ∧
    ∃ (s0 s1 : St), ZfP P ext fu ρ o s0 = some (v, s1) ∧ s0.n = s.n ∧ s1.n = s'.n ∧ s1.ob = s'.ob ∧ s0.h.get = K0 r s ∧ s1.h.get = fun k => if Dk r k then s'.h.get k else K0 r s k := by
  have ndk : ∀ {k : Nat}, Dk r k = false → ¬ ((r.w = true ∧ k ∈ r.t) ∨ (r.n0 ≤ k ∧ k < r.n1)) := fun {k} hd hn => by rw [Zek.2 hn] at hd; cases hd
  simp only [Ziy] at h
  split at h
  · split at h
    · rename_i v1 s1 h1
      obtain ⟨hall, h⟩ := Zo h
      simp only [Bool.and_eq_true] at hall
      obtain ⟨hall, hxl, hxw⟩ := hall
      injection h with h
      simp only [Prod.mk.injEq] at h
      obtain ⟨rfl, rfl, rfl⟩ := h
      have u := (Zc7 (P := P) (ext := ext) (fun f g hg => (F.hp f g hg).up) fu).2.2.1 _ _ _ _ _ h1
      obtain ⟨l, e1, e2⟩ := u.log
      simp only [List.append_nil] at e1
      subst e1
      have hx : ∀ k ∈ xs, k < s.n := fun k hk => Nat.le_of_ble_eq_true (Zao hxl k hk)
      have same : ∀ k, Dk ⟨false, true, ZiR s.n s1.wr, s.n, s1.n, xs⟩ k = false → s1.h.get k = (Ze2 .nil xs s.h).get k := fun k hd => by
        have hn := ndk hd
        refine e2 k (fun hk => hn ?_) (fun hk => hn (.inr hk))
        have hk1 : k < s1.n := Nat.le_of_ble_eq_true (Zao hall k hk)
        by_cases hks : k < s.n
        · exact .inl ⟨rfl, ZfI.2 ⟨hk, hks⟩⟩
        · exact .inr ⟨Nat.not_lt.1 hks, hk1⟩
      refine ⟨⟨fun k hk => (ZfI.1 hk).2, hx, u.n, fun _ => rfl, fun _ k hk hm => Zc3 hxw hm (ZfI.1 hk).1⟩, rfl, rfl, fun k hd => ?_, _, s1, h1, rfl, rfl, rfl, rfl, funext fun k => ?_⟩
      · show (Ze2 _ _ _).get k = _
        rw [Zdu]
        split
        · rfl
        · rename_i hm
          rw [same k hd, Zdu, if_neg hm]
      · split
        · rename_i hd
          show _ = (Ze2 _ _ _).get k
          rw [Zdu, if_neg]
          intro hm
          rcases Zek.1 hd with ⟨_, q2⟩ | ⟨q1, _⟩
          · exact Zc3 hxw hm (ZfI.1 q2).1
          · have := hx k hm; simp only at q1; omega
        · rename_i hd
          exact same k (by simpa using hd)
    · cases h
  · generalize hw : (Zg4 s ρ o).1 = w at h
    generalize ht : (Zg4 s ρ o).2 = t at h
    generalize hq : Zkf ρ o = q at h
    obtain ⟨hltq, h⟩ := Zo h
    obtain ⟨hlt, hlq⟩ := (Bool.and_eq_true _ _).mp hltq
    split at h
    · rename_i v1 s1 h1
      obtain ⟨hall, h⟩ := Zo h
      simp only [Bool.and_eq_true] at hall
      injection h with h
      simp only [Prod.mk.injEq] at h
      obtain ⟨rfl, rfl, rfl⟩ := h
      have u := (Zc7 (P := P) (ext := ext) (fun f g hg => (F.hp f g hg).up) fu).2.2.1 _ _ _ _ _ h1
      obtain ⟨l, e1, e2⟩ := u.log
      simp only [List.append_nil] at e1
      subst e1
      have hle : s1.n ≤ s.n + 1 := Nat.le_of_ble_eq_true hall.2
      have hge : s.n ≤ s1.n := u.n
      have htl : ∀ k ∈ t, k < s.n := fun k hk => Nat.le_of_ble_eq_true (Zao hlt k hk)
      have hwr : ∀ k ∈ s1.wr, w = true ∧ k ∈ t := fun k hk => by
        have := Zao hall.1 k hk
        simp only [Bool.and_eq_true, ZiY] at this
        exact this
      have gets : ∀ k, ((bif w then Ze2 s1.h t s.h else s.h).set s.n (bif Nat.beq s1.n s.n then s.h.get s.n else s1.h.get s.n)).get k =
          if k = s.n then (bif Nat.beq s1.n s.n then s.h.get s.n else s1.h.get s.n) else if w = true ∧ k ∈ t then s1.h.get k else s.h.get k := fun k => by
        rw [Tr.get_set]
        unfold upd
        split
        · rfl
        · cases w with
          | false => simp
          | true =>
            simp only [cond_true, true_and]
            rw [Zdu]
      refine ⟨⟨htl, fun k hk => Nat.le_of_ble_eq_true (Zao hlq k hk), hge, fun e => (by cases e), fun e => by cases e⟩, rfl, rfl, fun k hd => ?_, _, s1, h1, rfl, rfl, rfl, rfl, funext fun k => ?_⟩
      · have hn := ndk hd
        rw [gets]
        split
        · rename_i hk
          subst hk
          have : s1.n = s.n := by
            rcases Nat.lt_or_ge s.n s1.n with h | h
            · exact absurd (.inr ⟨Nat.le_refl _, h⟩) hn
            · omega
          rw [ZiS this]; rfl
        · split
          · rename_i hk; exact absurd (.inl hk) hn
          · rfl
      · split
        · rename_i hd
          rw [gets]
          rcases Zek.1 hd with ⟨q1, q2⟩ | ⟨q1, q2⟩
          · have := htl k q2
            rw [if_neg (by omega), if_pos ⟨q1, q2⟩]
          · simp only at q1 q2
            have hk : k = s.n := by omega
            subst hk
            rw [if_pos rfl, ZgD (by omega)]; rfl
        · rename_i hd
          have hn := ndk (by simpa using hd)
          show _ = (Zj2 s.h (t ++ q)).get k
          exact e2 k (fun hk => hn (.inl (hwr k hk))) (fun hk => hn (.inr hk))
    · cases h
theorem ZkK {t : Tmp} : ∀ {l : List Operand}, t ∈ ZgB l ↔ .tmp t ∈ l
  | [] => by simp [ZgB]
  | x :: l => by cases x <;> simp [ZgB, ZkK (l := l)]
theorem ZpV {T : Tr Value} (t : Nat) : ∀ (l : List Tmp), (Zmr T l).get t = if t ∈ l then T.get t else none
  | [] => by simp [Zmr, Tr.get_nil]
  | j :: l => by
    rw [Zmr, Tr.get_set]
    by_cases hk : t = j
    · subst hk; rw [Zr]; simp
    · rw [Zk hk, ZpV t l]
      simp [hk]
theorem ZiZ {fu : Nat} {ρ : Operand → Value} {o : Oper} {s s' : St} {v : Value} (h : ZfP P ext fu ρ o s = some (v, s')) : ∀ cs b, o.op ≠ .select cs b := fun cs b hsel => by
  cases fu with
  | zero => simp [ZfP] at h
  | succ fu =>
    have h1 : ev1 P ρ o s = none := by unfold ev1; rw [hsel]
    simp only [ZfP, Zke, hsel, h1] at h
    cases h
theorem Zwz (F : Fit P ext) {nt fu : Nat} {D : List Deferred} {ops : Array Oper} {es : List Ent} {T T' : Tr Value} {s s' : St} (hS : ∀ fu', fu' < fu → SOp P ext fu') (h : ZdE P ext nt fu ops [] ops.toList T s = some (es, T', s')) (ho : ∀ p ∈ s'.ob, p.1 = p.2)
    {ι : Ren} {a : Act} {w : World} {Q : Exit → Act → World → Prop} (hT : TR ι nt D T a) (he : Emb P ι s.h.get w) (hf : Fresh ι s.n s'.n)
    (hQ : ∀ ι' a' w', Step P ι s.h.get w ι' s'.h.get w' → Dom ι ι' s.n s'.n → TR ι' nt D T' a' → Q .normal a' w') : wpAny P .any ops Q ops.size (Array.replicate ops.size false) a { w with drawn := w.drawn + 1 } := by
  obtain ⟨es2, σ, τ, h1, h2, h3, h4, h5, h6, h7⟩ := ZnZ nt ops fu _ _ _ _ _ _ _ h
  simp only [List.nil_append] at h1 h7
  subst h1
  have hlen : es.length = ops.size := by rw [← List.length_map (f := (·.o)), h2]; simp
  have hN : ops.toList.length = es.length := by rw [hlen]; simp
  rw [hN] at h5 h6
  have hop : ∀ (i : Nat) (e : Ent), es[i]? = some e → ops[i]? = some e.o := fun i e hi => by
    have : (es.map (·.o))[i]? = some e.o := by simp [hi]
    rw [h2] at this
    simpa using this
  have hup : ∀ (i : Nat) (e : Ent), es[i]? = some e → Up (σ i) e.s ∧ Up e.s e.s' := fun i e hi => by
    obtain ⟨b, q1, q2, q3⟩ := (h7 i e hi).run
    refine ⟨Za4 q1, ?_⟩
    cases b with
    | true =>
      obtain ⟨fu', _, xs, hv⟩ := q2 rfl
      exact (Zc7 (P := P) (ext := ext) (fun f g hg => (F.hp f g hg).up) fu').2.2.2.2.2 _ _ _ _ _ _ _ hv
    | false => obtain ⟨_, e1, _⟩ := q3 rfl; rw [e1]; exact Up.refl _
  have upn : ∀ m i, i + m = es.length → Up (σ i) (σ es.length) := by
    intro m
    induction m with
    | zero => intro i hi; obtain rfl : i = es.length := by omega
              exact Up.refl _
    | succ m ih =>
      intro i hi
      have hlt : i < es.length := by omega
      obtain ⟨u1, u2⟩ := hup i es[i] (List.getElem?_eq_getElem hlt)
      have := ih (i + 1) (by omega)
      rw [(h7 i es[i] (List.getElem?_eq_getElem hlt)).es'] at this
      exact (u1.trans u2).trans this
  have hob : ∀ (i : Nat) (e : Ent), es[i]? = some e → ∀ p ∈ e.s'.ob, p.1 = p.2 := fun i e hi => by
    have hlt : i < es.length := (List.getElem?_eq_some_iff.1 hi).1
    have u := upn (es.length - (i + 1)) (i + 1) (by omega)
    rw [(h7 i e hi).es', h5] at u
    exact ZaG u.ob ho
  -- a test answered so is so
  have hst : ∀ (i : Nat) (e : Ent), es[i]? = some e → e.s.h = (σ i).h ∧ e.s.n = (σ i).n := fun i e hi => by
    obtain ⟨b, q1, _, _⟩ := (h7 i e hi).run
    unfold Zeg at q1
    split at q1
    · injection q1 with q1; injection q1 with g1 g2; rw [← g2]; exact ⟨rfl, rfl⟩
    · split at q1
      · split at q1
        · injection q1 with q1; injection q1 with g1 g2; rw [← g2]; exact ⟨rfl, rfl⟩
        · injection q1 with q1; injection q1 with g1 g2; rw [← g2]; exact ⟨rfl, rfl⟩
        · cases q1
      · cases q1
  have hrec : ∀ (i : Nat) (e : Ent), es[i]? = some e → ZnY e.r ∧ e.r.n0 = (σ i).n ∧ e.r.n1 = (σ (i + 1)).n ∧ (∀ k, Dk e.r k = false → (σ (i + 1)).h.get k = (σ i).h.get k) ∧ e.s.h = (σ i).h := fun i e hi => by
    obtain ⟨g1, g2⟩ := hst i e hi
    obtain ⟨b, q1, q2, q3⟩ := (h7 i e hi).run
    rw [(h7 i e hi).es']
    cases b with
    | true =>
      obtain ⟨fu', _, xs, hv⟩ := q2 rfl
      cases fu' with
      | zero => simp [Ziy] at hv
      | succ fu' =>
        obtain ⟨r1, r2, r3, r4, _⟩ := ZpU F hv
        exact ⟨r1, by rw [r2, g2], r3, fun k hk => by rw [r4 k hk, g1], g1⟩
    | false =>
      obtain ⟨_, e1, e2⟩ := q3 rfl
      rw [e1, e2]
      exact ⟨⟨fun k hk => by simp [Zie] at hk, fun k hk => by simp [Zie] at hk, Nat.le_refl _, fun e => (by simp [Zie] at e), fun e => by simp [Zie] at e⟩, g2, rfl, fun k _ => by rw [g1], g1⟩
  have C : Ctx P ext nt fu ops es σ τ := by
    refine ⟨hlen, hop, h7, hrec, fun k hk => ?_, fun i e hi ι1 w1 a1 K Q1 ht1 he1 hf1 hK => ?_⟩
    · rw [h3] at hk ⊢
      rw [h5]
      rintro ⟨k1, k2⟩
      obtain ⟨b, hb⟩ := he.live hk
      rw [hf.2 k k1 k2] at hb
      cases hb
    · obtain ⟨g1, g2⟩ := hst i e hi
      obtain ⟨b, q1, q2, q3⟩ := (h7 i e hi).run
      have hes' := (h7 i e hi).es'
      have hlt : i < es.length := (List.getElem?_eq_some_iff.1 hi).1
      obtain ⟨hwant, _, _⟩ := Zcm ht1 q1
      unfold wpOp
      rw [hop i e hi]
      simp only
      cases b with
      | true =>
        rw [if_pos hwant]
        obtain ⟨fu', hfu, xs, hv⟩ := q2 rfl
        cases fu' with
        | zero => simp [Ziy] at hv
        | succ fu' =>
          obtain ⟨r1, r2, r3, r4, s0, s1, hv1, n0, n1, ob1, hh0, hh1⟩ := ZpU F hv
          refine .inl (hS fu' (by omega) _ (fun x => match x with | .tmp t => if t ∈ ZgB e.o.op.operands.toList then a1.tmps.getD t undef else undef | x => Zc2 a1 x) e.o s0 e.v s1 hv1 (by rw [ob1]; exact hob i e hi) ι1 w1 (fun x => ?_) ?_ ?_ a1 K Q1 ?_ fun v' w' ι' k1 k2 k3 => ?_)
          · cases x with
            | tmp t =>
              simp only [opnd]
              rw [ZpV]
              by_cases htm : t ∈ ZgB e.o.op.operands.toList
              · rw [if_pos htm, if_pos htm]
                refine ht1 t ?_
                unfold Oper.looksAt
                refine List.mem_append_left _ (List.mem_filterMap.2 ⟨.tmp t, ZkK.1 htm, rfl⟩)
              · rw [if_neg htm, if_neg htm]; exact VR.undef'
            | const v =>
              simp only [opnd, Zc2]
              cases hfv : Zbl v
              · exact VR.undef'
              · exact VR.of_free hfv
            | global g => exact .glob rfl
            | func f => exact .atom rfl
          · rw [hh0]; exact he1
          · rw [n0, n1, g2, ← hes']; exact hf1
          · refine execOp_congr e.o (fun cs b hsel => ?_) fun x hx => ?_
            · exact ZiZ hv1 cs b hsel
            · have hg := Zao (h7 i e hi).good x (by simpa using hx)
              cases x with
              | tmp t => simp only; rw [if_pos (ZkK.2 (by simpa using hx))]; rfl
              | const v => simp only [ZfY] at hg; simp [Zc2, hg, Act.eval]
              | global g => rfl
              | func f => rfl
          · rw [hh0, hh1] at k1
            rw [n0, n1, g2, ← hes'] at k2
            exact hK v' w' ι' k1 k2 k3
      | false =>
        obtain ⟨e0, e1, e2⟩ := q3 rfl
        rw [if_neg (by rw [hwant]; simp)]
        refine hK undef w1 ι1 ?_ Dom.refl (by rw [e0]; exact VR.undef')
        have : Zrt e = Kof e := funext fun k => by
          unfold Zrt
          rw [e2]
          have : Dk (Zie e.s) k = false := by
            cases hd : Dk (Zie e.s) k with
            | false => rfl
            | true =>
              rcases Zek.1 hd with ⟨q, _⟩ | ⟨q1, q2⟩
              · simp [Zie] at q
              · simp only [Zie] at q1 q2; omega
          rw [this]; rfl
        rw [this]
        exact Step.refl he1
  have none0 : ∀ {β : Type} (D : Nat → Bool) (V : Nat → β) (x0 : β) (L : Nat → Bool), (∀ j, L j = false) → ∀ n, ovf L D V x0 n = x0 := fun D V x0 L hL n => by
    induction n with
    | zero => rfl
    | succ n ih => rw [ovf, hL n, ih]; simp
  have hL0 : ∀ j, (Array.replicate ops.size false).getD j false = false := fun j => by
    simp only [Array.getD_eq_getD_getElem?, Array.getElem?_replicate]
    split <;> rfl
  have hH0 : HL es (fun j => (Array.replicate ops.size false).getD j false) (σ 0) = (σ 0).h.get := funext fun k => none0 _ _ _ _ hL0 _
  have hT0 : ∀ t, TL es (fun j => (Array.replicate ops.size false).getD j false) (τ 0) t = (τ 0).get t := fun t => none0 _ _ _ _ hL0 _
  have hs0 : Step P ι (σ 0).h.get w ι (σ 0).h.get { w with drawn := w.drawn + 1 } := Step.still (by rw [h3]; exact he) rfl rfl rfl rfl
  refine C.order (ι0 := ι) (w0 := w) (by rw [h3, h5]; exact hf) (Q := Q) (fun ι' a' w' k1 k2 k3 => ?_) ops.size _ a _ ι (by simp) ?_ ?_ ⟨by rw [hH0]; exact hs0, fun k hk => .inl hk, hT.1, hT.2.1, fun t => by rw [hT0, h4]; exact hT.2.2 t⟩
  · rw [h3, h5] at k1 k2
    rw [h6] at k3
    exact hQ ι' a' w' k1 k2 k3
  · rw [← hlen]
    have : ∀ n, cnt (fun j => (Array.replicate es.length false).getD j false) n ≤ n := fun n => by
      induction n with
      | zero => exact Nat.le_refl _
      | succ n ih => rw [cnt]; split <;> omega
    exact this _
  · intro i e _ hi
    exact absurd ((hL0 i).symm.trans hi) (by decide)
theorem Zup (F : Fit P ext) {nt fu : Nat} {D : List Deferred} {ops : Array Oper} {es : List Ent} {T T' : Tr Value} {s s' : St} (hS : ∀ fu', fu' < fu → SOp P ext fu') (h : ZdE P ext nt fu ops [] ops.toList T s = some (es, T', s')) (ho : ∀ p ∈ s'.ob, p.1 = p.2)
    {ι : Ren} {a : Act} {w : World} {Q : Exit → Act → World → Prop} {id : Nat} (hT : TR ι nt D T a) (he : Emb P ι s.h.get w) (hf : Fresh ι s.n s'.n)
    (hQ : ∀ ι' a' w', Step P ι s.h.get w ι' s'.h.get w' → Dom ι ι' s.n s'.n → TR ι' nt D T' a' → Q .normal a' w') : (Code.region id ops true).wp P Q a w :=
  wp_region_any F.mixed (Zwz F hS h ho hT he hf hQ)
end
end Ev
end Go.Proofs.YtlbbiflodemagaaDoor
/- The runner against the model: what it says holds in every world. -/
namespace Go.Proofs.YtlbbiflodemagaaDoor
open Go.RowKit
namespace Ev
section
variable {P : Program} {ext : FuncId → Option Ext}

def Zj7 (P : Program) (ι : Ren) (s : St) (w : World) (nt : Nat) (D : List Deferred) (e : Ex) (T' : Tr Value) (s' : St) (ex : Exit) (a' : Act) (w' : World) : Prop :=
 ex = e.out ∧ ∃ ι', Step P ι s.h.get w ι' s'.h.get w' ∧ Dom ι ι' s.n s'.n ∧ TR ι' nt D T' a'
theorem Step.two {ι ι1 ι2 : Ren} {s s1 s2 : St} {w w1 w2 : World} (a : Step P ι s.h.get w ι1 s1.h.get w1 ∧ Dom ι ι1 s.n s1.n) (b : Step P ι1 s1.h.get w1 ι2 s2.h.get w2 ∧ Dom ι1 ι2 s1.n s2.n) (h1 : s.n ≤ s1.n) (h2 : s1.n ≤ s2.n) :
  Step P ι s.h.get w ι2 s2.h.get w2 ∧ Dom ι ι2 s.n s2.n := ⟨a.1.trans b.1, a.2.trans b.2 h1 h2⟩
theorem ZmX {o : Oper} {c : Call} (h : Zke o = some c) : o.op = .call c ∧ True := by
 unfold Zke at h
 split at h
 ·rename_i c' ho
  split at h
  ·rename_i f hf
   injection h with h; subst h
   exact ⟨ho, trivial⟩
  ·injection h with h; subst h
   exact ⟨ho, trivial⟩
  ·cases h
 ·cases h
theorem ZgF {ι : Ren} {a a' b b' : Array Value} (h : VRs ι a a') (k : VRs ι b b') : VRs ι (a ++ b) (a' ++ b') := by
 refine ⟨by simp [h.1, k.1], fun i x y hx hy => ?_⟩
 by_cases hi : i < a.size
 ·rw [Array.getElem?_append_left hi] at hx
  rw [Array.getElem?_append_left (by rw [← h.1]; exact hi)] at hy
  exact h.2 i x y hx hy
 ·rw [Array.getElem?_append_right (by omega)] at hx
  rw [Array.getElem?_append_right (by rw [← h.1]; omega), ← h.1] at hy
  exact k.2 _ x y hx hy
theorem ZlH {ι : Ren} {ρ ρ' : Operand → Value} {o : Oper} {c : Call} {f : FuncId} {args : Array Value} (hρ : ∀ x, VR ι (ρ x) (ρ' x)) (ho : o.op = .call c) (h : callee ρ c = some (f, args)) (w : World) :
  ∃ args', (execOp ρ' o).run P w = (callFunc f args').run P w ∧ VRs ι args args' := by
 unfold callee at h
 split at h
 ·rename_i x hx
  split at h
  ·rename_i g a b hg
   injection h with h; injection h with h1 h2; subst h1 h2
   have hv := hg ▸ hρ x
   have : ∃ a' b', ρ' x = .func (.func g) a' b' ∧ VRs ι a a' ∧ VRs ι b b' := by
    generalize ρ' x = x' at hv
    cases hv with
    | atom h =>
     simp [Ev.atom] at h
     obtain ⟨rfl, rfl⟩ := h
     exact ⟨_, _, rfl, ⟨rfl, fun i x y hx => by simp at hx⟩, ⟨rfl, fun i x y hx => by simp at hx⟩⟩
    | func hs ht h1 h2 => exact ⟨_, _, rfl, ⟨hs, h1⟩, ⟨ht, h2⟩⟩
   obtain ⟨a', b', hx', ha, hb⟩ := this
   refine ⟨a' ++ c.args.map ρ' ++ b', ?_, ZgF (ZgF ha (Zki hρ c.args)) hb⟩
   simp [execOp, ho, resolve, hx, hx', Deferred.ofValue, invoke, Result.andThen, Sem.run]
  ·cases h
 ·cases h
theorem Zq2 {ι : Ren} {ρ ρ' : Operand → Value} {o : Oper} {c : Call} {f : FuncId} {args : Array Value} (hρ : ∀ x, VR ι (ρ x) (ρ' x)) (ho : o.op = .call c) (h : ZoP P ρ c = some (f, args)) (w : World) :
  ∃ args', (execOp ρ' o).run P w = (callFunc f args').run P w ∧ VRs ι args args' := by
 unfold ZoP at h
 split at h
 ·rename_i r name hc
  split at h
  ·rename_i t v hv
   obtain ⟨_, h⟩ := Zo h
   split at h
   ·rename_i g x hm
    obtain ⟨hx, h⟩ := Zo h
    injection h with h
    injection h with h1 h2
    subst h1 h2
    have hr : ρ' r = .iface t v := by
     have hv' := hv ▸ hρ r
     generalize ρ' r = x' at hv'
     cases hv' with
     | atom h => rfl
    refine ⟨#[x] ++ c.args.map ρ', ?_, ZgF ⟨rfl, fun i y z hy hz => by
     rw [hy] at hz
     injection hz with hz
     subst hz
     rcases i with _ | i
     ·simp at hy; subst hy; exact VR.of_free1 hx
     ·simp at hy⟩ (Zki hρ c.args)⟩
    have hm' := Zfh w hm
    have e0 : (#[Value.iface t v] ++ Array.map ρ' c.args)[0]? = some (Value.iface t v) := by
     rw [Array.getElem?_append_left (by simp)]; rfl
    have e2 : (#[Value.iface t v] ++ Array.map ρ' c.args).extract 1 (#[Value.iface t v] ++ Array.map ρ' c.args).size = Array.map ρ' c.args := by
     apply Array.ext'
     simp [Array.toList_extract]
     rw [List.take_of_length_le (by simp)]
    simp only [execOp, ho, resolve, hc, hr, Sem.run_bind, Sem.run_pure, Result.andThen_ok, invoke, e0, callMethod, program, Sem.run, hm', e2]
   ·cases h
  ·cases h
 ·exact ZlH hρ ho h w
theorem Zj8 {ι : Ren} {s s' : St} {w : World} {v : Value} {o : Oper} {a : Act} {K : Act → World → Prop} {Q : Exit → Act → World → Prop} (h : Res P ((execOp a.eval o).run P w) s ι w v s')
  (hK : ∀ v' w' ι', Step P ι s.h.get w ι' s'.h.get w' → Dom ι ι' s.n s'.n → VR ι' v v' → K (a.put o.dst v') w') : o.wp P a w K Q := by
 obtain ⟨nx, w', ι', v', hr, hv, h1, h2, h3⟩ := h
 unfold Oper.wp
 try rw [hr]
 rcases hv with rfl | ⟨rfl, rfl⟩
 ·exact hK v' w' ι' h1 h2 h3
 ·exact hK undef w' ι' h1 h2 h3
theorem Zhs {ι : Ren} {nt : Nat} {args args' : Array Value} (h : VRs ι args args') (hs : args.size ≤ nt) : TR ι nt [] (Zeb 0 args.toList .nil) { tmps := args' ++ Array.replicate (nt - args'.size) undef, defers := [] } := by
 have key : ∀ (l : List Value) (i : Nat) (T : Tr Value) (t : Nat), (Zeb i l T).get t = if i ≤ t ∧ t < i + l.length then l[t - i]? else T.get t := by
  intro l
  induction l with
  | nil => intro i T t; simp only [Zeb]; rw [if_neg (by rintro ⟨h1, h2⟩; simp only [List.length_nil] at h2; omega)]
  | cons v l ih =>
   intro i T t
   simp only [Zeb]
   rw [ih, Tr.get_set]
   by_cases h1 : t = i
   ·subst h1
    rw [if_neg (by omega), Zr, if_pos (by simp)]
    simp
   ·rw [Zk h1]
    by_cases h2 : i + 1 ≤ t ∧ t < i + 1 + l.length
    ·rw [if_pos h2, if_pos (by simp; omega)]
     have : t - i = (t - (i + 1)) + 1 := by omega
     rw [this, List.getElem?_cons_succ]
    ·rw [if_neg h2, if_neg (by simp; omega)]
 refine ⟨by simp [← h.1, hs], rfl, fun t => ?_⟩
 rw [key]
 by_cases ht : t < args.size
 ·have ht' : t < args'.size := by rw [← h.1]; exact ht
  rw [if_pos (by simp [ht])]
  have e1 : args.toList[t - 0]? = some args[t] := by simp [ht]
  rw [e1, Array.getD_eq_getD_getElem?, Array.getElem?_append_left ht', Array.getElem?_eq_getElem ht']
  exact h.2 t _ _ (Array.getElem?_eq_getElem ht) (Array.getElem?_eq_getElem ht')
 ·rw [if_neg (by simp; omega)]
  have ht' : args'.size ≤ t := by rw [← h.1]; omega
  rw [Array.getD_eq_getD_getElem?, Array.getElem?_append_right ht']
  have : (Array.replicate (nt - args'.size) undef)[t - args'.size]?.getD undef = undef := by
   rw [Array.getElem?_replicate]
   split <;> rfl
  rw [this]
  exact VR.undef'

theorem ZjN {c : Code} {Q Q' : Exit → Act → World → Prop} (hq : ∀ e a w, Q e a w → Q' e a w) : ∀ (n : Nat) (a : Act) (w : World), Code.rounds P c Q n a w → Code.rounds P c Q' n a w
 | 0, _, _, h => h
 | n + 1, a, w, h => by
  rw [rounds_succ] at h ⊢
  refine wp_mono h ?_
  intro e a1 w1 h1
  cases e with
  | normal => exact ZjN hq n a1 w1 h1
  | _ => exact hq _ _ _ h1
theorem Step.below {ι : Ren} {h : AH} {w w' : World} (e : Emb P ι h w) (hb : Below w.heap.size w w') : Step P ι h w ι h w' :=
 ⟨fun _ _ h => h, ⟨fun k c t q hk => by
   obtain ⟨b, q1, hz⟩ := e.obj k c t q hk
   exact ⟨b, q1, hz.imp id fun ⟨q0, C, q2, q3⟩ => ⟨q0, C, q2.on (hb.block b.1 (e.lt k b q1)), q3⟩⟩, fun k O hk => by
   obtain ⟨b, q1, q2⟩ := e.ro k O hk
   exact ⟨b, q1, q2.on (hb.block b.1 (e.lt k b q1))⟩, e.inj, fun k b hk => Nat.lt_of_lt_of_le (e.lt k b hk) hb.size, e.marks (fun _ _ h => h) (fun b hlt _ => hb.block b hlt) (fun _ _ _ _ h => h) (fun k d hk hd => .inr ⟨k, d, hk, hd, rfl⟩), e.tb⟩,
  hb.os, hb.tape, hb.output, hb.size, fun b hlt _ => hb.block b hlt, fun k b h1 h2 => (by rw [h1] at h2; cases h2), fun _ h1 _ => h1, fun _ h1 _ => h1⟩
theorem Zfl (F : Fit P ext) : ∀ fu : Nat,
  (∀ nt c T s e T' s', ZaE P ext nt fu c T s = some (e, T', s') → (∀ p ∈ s'.ob, p.1 = p.2) → ∀ ι D a w, TR ι nt D T a → Emb P ι s.h.get w → Fresh ι s.n s'.n → c.wp P (Zj7 P ι s w nt D e T' s') a w) ∧
  (∀ nt ops l T s T' s', ZgC P ext nt fu ops l T s = some (T', s') → (∀ p ∈ s'.ob, p.1 = p.2) → ∀ ι D a w (Q : Exit → Act → World → Prop), TR ι nt D T a → Emb P ι s.h.get w → Fresh ι s.n s'.n →
   (∀ ι' a' w', Step P ι s.h.get w ι' s'.h.get w' → Dom ι ι' s.n s'.n → TR ι' nt D T' a' → Q .normal a' w') → wpList P ops Q l a w) ∧
  SOp P ext fu ∧
  (∀ f args s v s', Zfg P ext fu f args s = some (v, s') → (∀ p ∈ s'.ob, p.1 = p.2) → ∀ ι w args', VRs ι args args' → Emb P ι s.h.get w → Fresh ι s.n s'.n → Calls P f args' w (Zms P ι s w v s')) ∧
  (∀ nt c T s e T' s', ZaE P ext nt fu (.loop c) T s = some (e, T', s') → (∀ p ∈ s'.ob, p.1 = p.2) → ∀ ι D a w, TR ι nt D T a → Emb P ι s.h.get w → Fresh ι s.n s'.n → Code.rounds P c (Zj7 P ι s w nt D e T' s') fu a w) := by
 intro fu
 induction fu using Nat.strongRecOn with
 | _ fu ihs =>
 cases fu with
 | zero => exact ⟨fun _ _ _ _ _ _ _ h => by simp [ZaE] at h, fun _ _ _ _ _ _ _ h => by simp [ZgC, St.keep_eq] at h, fun _ _ _ _ _ _ h => by simp [ZfP] at h, fun _ _ _ _ _ h => by simp [Zfg] at h, fun _ _ _ _ _ _ _ h => by simp [ZaE] at h⟩
 | succ fu =>
  obtain ⟨ihC, ihO, ihP, ihF, ihL⟩ := ihs fu (Nat.lt_succ_self _)
  obtain ⟨upC, upO, upP, upF, upD, upE⟩ := Zc7 (P := P) (ext := ext) (fun f g hg => (F.hp f g hg).up) fu
  have loops : ∀ nt c T s e T' s', ZaE P ext nt (fu + 1) (.loop c) T s = some (e, T', s') → (∀ p ∈ s'.ob, p.1 = p.2) → ∀ ι D a w, TR ι nt D T a → Emb P ι s.h.get w → Fresh ι s.n s'.n → Code.rounds P c (Zj7 P ι s w nt D e T' s') (fu + 1) a w := by
   intro nt x T s e T' s' h ho ι D a w hT he hf
   simp only [ZaE] at h
   rw [rounds_succ]
   split at h
   ·rename_i T1 s1 h1
    have u1 := upC _ _ _ _ _ _ _ h1
    have u2 := upC _ _ _ _ _ _ _ h
    refine wp_mono (ihC nt x T s .normal T1 s1 h1 (ZaG u2.ob ho) ι D a w hT he (hf.mono (Nat.le_refl _) u2.n)) ?_
    rintro ex a1 w1 ⟨rfl, ι1, g1, g2, g3⟩
    refine ZjN ?_ fu a1 w1 (ihL nt x T1 s1 e T' s' h ho ι1 D a1 w1 g3 g1.emb (hf.after g2 u1.n))
    rintro ex2 a2 w2 ⟨rfl, ι2, k1, k2, k3⟩
    exact ⟨rfl, ι2, g1.trans k1, g2.trans k2 u1.n u2.n, k3⟩
   ·rename_i i T1 s1 h1
    injection h with h; simp only [Prod.mk.injEq] at h; obtain ⟨rfl, rfl, rfl⟩ := h
    refine wp_mono (ihC nt x T s _ _ _ h1 ho ι D a w hT he hf) ?_
    rintro ex a1 w1 ⟨rfl, hq⟩
    exact ⟨rfl, hq⟩
   ·rename_i T1 s1 h1
    injection h with h; simp only [Prod.mk.injEq] at h; obtain ⟨rfl, rfl, rfl⟩ := h
    refine wp_mono (ihC nt x T s _ _ _ h1 ho ι D a w hT he hf) ?_
    rintro ex a1 w1 ⟨rfl, hq⟩
    exact ⟨rfl, hq⟩
   ·cases h
  refine ⟨fun nt c T s e T' s' h ho ι D a w hT he hf => ?_, fun nt ops l T s T' s' h ho ι D a w Q hT he hf hQ => ?_, fun ρ ρ' o s v s' h ho ι w hρ he hf a K Q hex hK => ?_, fun f args s v s' h ho ι w args' ha he hf => ?_, loops⟩
  ·have base : Zj7 P ι s w nt D .normal T s .normal a w ∧ Zj7 P ι s w nt D .ret T s .ret a w ∧ ∀ i, Zj7 P ι s w nt D (.exit i) T s (.exit i) a w :=
    ⟨⟨rfl, ι, Step.refl he, Dom.refl, hT⟩, ⟨rfl, ι, Step.refl he, Dom.refl, hT⟩, fun i => ⟨rfl, ι, Step.refl he, Dom.refl, hT⟩⟩
   -- one part, then the other
   have chain : ∀ {s1 : St} {T1 : Tr Value} {c2 : Code} {a1 : Act} {w1 : World} {ι1 : Ren}, Up s s1 → Up s1 s' → Step P ι s.h.get w ι1 s1.h.get w1 → Dom ι ι1 s.n s1.n → TR ι1 nt D T1 a1 → ZaE P ext nt fu c2 T1 s1 = some (e, T', s') →
     c2.wp P (Zj7 P ι s w nt D e T' s') a1 w1 := fun {s1 T1 c2 a1 w1 ι1} u1 u2 h1 h2 h3 h4 => by
    refine wp_mono (ihC nt c2 T1 s1 e T' s' h4 ho ι1 D a1 w1 h3 h1.emb ((hf.mono (Nat.le_refl _) (Nat.le_refl _)).after h2 u1.n)) ?_
    rintro ex a2 w2 ⟨rfl, ι2, g1, g2, g3⟩
    exact ⟨rfl, ι2, (Step.two ⟨h1, h2⟩ ⟨g1, g2⟩ u1.n u2.n).1, (Step.two ⟨h1, h2⟩ ⟨g1, g2⟩ u1.n u2.n).2, g3⟩
   have h0 := h
   cases c <;> simp only [ZaE] at h
   case skip => injection h with h; simp only [Prod.mk.injEq] at h; obtain ⟨rfl, rfl, rfl⟩ := h; exact wp_skip base.1
   case label l => injection h with h; simp only [Prod.mk.injEq] at h; obtain ⟨rfl, rfl, rfl⟩ := h; exact wp_label base.1
   case scope c =>
    refine wp_scope_straight (wp_mono (ihC nt c T s e T' s' h ho ι D a w hT he hf) ?_)
    rintro ex a1 w1 ⟨rfl, hq⟩
    cases e <;> exact ⟨rfl, hq⟩
   case ret => injection h with h; simp only [Prod.mk.injEq] at h; obtain ⟨rfl, rfl, rfl⟩ := h; exact wp_ret base.2.1
   case exit id => injection h with h; simp only [Prod.mk.injEq] at h; obtain ⟨rfl, rfl, rfl⟩ := h; exact wp_exit (base.2.2 id)
   case seq x y =>
    split at h
    ·rename_i T1 s1 h1
     have u1 := upC _ _ _ _ _ _ _ h1
     have u2 := upC _ _ _ _ _ _ _ h
     refine wp_seq (wp_mono (ihC nt x T s .normal T1 s1 h1 (ZaG u2.ob ho) ι D a w hT he (hf.mono (Nat.le_refl _) u2.n)) ?_)
     rintro ex a1 w1 ⟨rfl, ι1, g1, g2, g3⟩
     exact chain u1 u2 g1 g2 g3 h
    ·rename_i i T1 s1 h1
     injection h with h; simp only [Prod.mk.injEq] at h; obtain ⟨rfl, rfl, rfl⟩ := h
     refine wp_seq (wp_mono (ihC nt x T s _ _ _ h1 ho ι D a w hT he hf) ?_)
     rintro ex a1 w1 ⟨rfl, hq⟩
     exact ⟨rfl, hq⟩
    ·rename_i T1 s1 h1
     injection h with h; simp only [Prod.mk.injEq] at h; obtain ⟨rfl, rfl, rfl⟩ := h
     refine wp_seq (wp_mono (ihC nt x T s _ _ _ h1 ho ι D a w hT he hf) ?_)
     rintro ex a1 w1 ⟨rfl, hq⟩
     exact ⟨rfl, hq⟩
    ·cases h
   case cond x y z =>
    split at h
    ·rename_i t ht
     have hx : a.eval x = .bool t := ZfH ((ht ▸ hT.opnd x : VR ι (.bool t) (Zc2 a x)).bool_inv)
     split at h
     ·exact wp_cond_true hx (ihC nt y T s e T' s' h ho ι D a w hT he hf)
     ·exact wp_cond_false hx (ihC nt z T s e T' s' h ho ι D a w hT he hf)
    ·cases h
   case block id x =>
    split at h
    ·rename_i i T1 s1 h1
     cases hb : Nat.beq i id with
     | true =>
      rw [hb] at h
      injection h with h; simp only [Prod.mk.injEq] at h; obtain ⟨rfl, rfl, rfl⟩ := h
      refine wp_block (wp_mono (ihC nt x T s _ _ _ h1 ho ι D a w hT he hf) ?_)
      rintro ex a1 w1 ⟨rfl, hq⟩
      show if i = id then _ else _
      rw [if_pos (Nat.eq_of_beq_eq_true hb)]
      exact ⟨rfl, hq⟩
     | false =>
      rw [hb] at h
      injection h with h; simp only [Prod.mk.injEq] at h; obtain ⟨rfl, rfl, rfl⟩ := h
      refine wp_block (wp_mono (ihC nt x T s _ _ _ h1 ho ι D a w hT he hf) ?_)
      rintro ex a1 w1 ⟨rfl, hq⟩
      show if i = id then _ else _
      rw [if_neg (fun e => by rw [ZiS e] at hb; cases hb)]
      exact ⟨rfl, hq⟩
    ·rename_i T1 s1 h1
     injection h with h; simp only [Prod.mk.injEq] at h; obtain ⟨rfl, rfl, rfl⟩ := h
     refine wp_block (wp_mono (ihC nt x T s _ _ _ h1 ho ι D a w hT he hf) ?_)
     rintro ex a1 w1 ⟨rfl, hq⟩
     exact ⟨rfl, hq⟩
    ·rename_i T1 s1 h1
     injection h with h; simp only [Prod.mk.injEq] at h; obtain ⟨rfl, rfl, rfl⟩ := h
     refine wp_block (wp_mono (ihC nt x T s _ _ _ h1 ho ι D a w hT he hf) ?_)
     rintro ex a1 w1 ⟨rfl, hq⟩
     exact ⟨rfl, hq⟩
    ·cases h
   case loop x =>
    exact wp_loop_rounds (fu + 1) (loops nt x T s e T' s' h0 ho ι D a w hT he hf)
   case region id ops draw =>
    cases draw with
    | true =>
     simp only [cond_true] at h
     split at h
     ·rename_i es T1 s1 h1
      injection h with h; simp only [Prod.mk.injEq] at h; obtain ⟨rfl, rfl, rfl⟩ := h
      exact Zup F (fun fu' hfu => (ihs fu' (by omega)).2.2.1) h1 ho hT he hf fun ι' a' w' g1 g2 g3 => ⟨rfl, ι', g1, g2, g3⟩
     ·cases h
    | false =>
    simp only [cond_false] at h
    split at h
    ·rename_i T1 s1 h1
     injection h with h; simp only [Prod.mk.injEq] at h; obtain ⟨rfl, rfl, rfl⟩ := h
     refine wp_region_list (ihO nt ops ops.toList T s T1 s1 h1 ho ι D a w _ hT he hf fun ι' a' w' g1 g2 g3 => ⟨rfl, ι', g1, g2, g3⟩)
    ·cases h
   all_goals cases h
  ·cases l with
   | nil =>
    simp only [ZgC, St.keep_eq] at h
    injection h with h; simp only [Prod.mk.injEq] at h; obtain ⟨rfl, rfl⟩ := h
    exact hQ ι a w (Step.refl he) Dom.refl hT
   | cons o l =>
    simp only [ZgC, St.keep_eq] at h
    obtain ⟨hg, h⟩ := Zo h
    simp only [Bool.and_eq_true] at hg
    unfold wpList
    split at h
    ·rename_i s1 hw
     split at h
     ·rename_i v s2 hv
      have u1 := Za4 hw
      have u2 := upP _ _ _ _ _ hv
      have u3 := upO _ _ _ _ _ _ _ h
      obtain ⟨hwant, e2, e3⟩ := Zcm (fun t _ => hT.2.2 t) hw
      rw [if_pos hwant]
      refine .inl (ihP (opnd T) (Zc2 a) o s1 v s2 hv (ZaG u3.ob ho) ι w hT.opnd (e2 ▸ he) (e3 ▸ (hf.mono (Nat.le_refl _) u3.n)) a _ Q (Zfk (ZiZ hv) hg.2).symm fun v' w' ι' g1 g2 g3 => ?_)
      rw [e2] at g1
      rw [e3] at g2
      have hle : s.n ≤ s2.n := by rw [← e3]; exact u2.n
      exact ihO nt ops l (Zc6 T o.dst v) s2 T' s' h ho ι' D _ w' Q ((hT.on g1.ext).put hg.1 g3) g1.emb (hf.after g2 hle) fun ι2 a2 w2 k1 k2 k3 =>
       hQ ι2 a2 w2 (g1.trans k1) (g2.trans k2 hle u3.n) k3
     ·cases h
    ·rename_i s1 hw
     have u1 := Za4 hw
     have u3 := upO _ _ _ _ _ _ _ h
     obtain ⟨hwant, e2, e3⟩ := Zcm (fun t _ => hT.2.2 t) hw
     rw [if_neg (by rw [hwant]; simp)]
     refine ihO nt ops l (Zc6 T o.dst undef) s1 T' s' h ho ι D _ w Q (hT.put hg.1 VR.undef') (e2 ▸ he) (e3 ▸ hf) fun ι2 a2 w2 k1 k2 k3 => hQ ι2 a2 w2 (e2 ▸ k1) (e3 ▸ k2) k3
    ·cases h
  ·simp only [ZfP] at h
   split at h
   ·rename_i c hc
    obtain ⟨hop, _⟩ := ZmX hc
    split at h
    ·rename_i f args hcal
     obtain ⟨args', hrun, hargs⟩ := Zq2 (P := P) hρ hop hcal w
     rw [← hex] at hrun
     split at h
     ·rename_i kk e hx
      split at h
      ·rename_i z c1 s1 hw
       obtain ⟨e1, e2, _⟩ := ZR hw
       obtain ⟨s2, s3, h4, e3, e4, e5, e6, ho3⟩ := Zuo ho h rfl
       exact Zj8 (((hrun ▸ ZlC F hx hargs (s := s2) (by rw [e3, e1]; exact he) ho3 h4).heap (e3.trans e1).symm (e4.trans e2).symm).behind e5 e6) hK
      ·cases h
      ·rename_i s1 hw
       obtain ⟨e1, e2, _⟩ := ZR hw
       exact Zj8 ((hrun ▸ ZlC F hx hargs (s := s1) (e1 ▸ he) ho h).heap e1.symm e2.symm) hK
     ·rename_i n hx
      exact Zj8 (hrun ▸ Zun F hx hargs he h) hK
     ·rename_i g hx
      have hd := F.hp f g hx
      unfold Oper.wp
      rcases hd.does args s v s' h ho ι w args' hargs he hf with ⟨⟨fn, c', hfn, hb⟩, hcalls⟩ | ⟨v1, w1, hr, v', ι', hv, g1, g2, g3⟩
      ·rw [hrun, Zdx hfn (F.go f fn hfn) hb, Oper.upon_enter]
       refine hcalls.mono ?_
       rintro e2 w2 ⟨v', ι', rfl, g1, g2, g3⟩
       exact hK v' w2 ι' g1 g2 g3
      ·injection hv with hv
       subst hv
       rw [hrun, hr, Oper.upon_value]
       exact hK v1 w1 ι' g1 g2 g3
     ·rename_i S hx
      split at h
      ·rename_i pre u post dn s1 hw
       obtain ⟨e1, e2, _⟩ := ZR hw
       obtain ⟨⟨fn, c', hfn, hb⟩, hS⟩ := F.tc f S hx
       unfold Oper.wp
       rw [hrun, Zdx hfn (F.go f fn hfn) hb, Oper.upon_enter]
       refine (Zum hS h ho hargs (e1 ▸ he) (e2 ▸ hf)).mono ?_
       rintro e2' w2 ⟨v', ι', rfl, g1, g2, g3⟩
       exact hK v' w2 ι' (e1 ▸ g1) (e2 ▸ g2) g3
      ·cases h
     ·rename_i g hx
      unfold ZtT at h
      obtain ⟨hfree, h⟩ := Zo h
      split at h
      ·rename_i v1 hg
       obtain ⟨hfv, h⟩ := Zo h
       injection h with h; injection h with q1 q2; subst q1 q2
       have hae : args' = args := Ze3 hargs.1 fun i x y hx1 hy1 => (hargs.2 i x y hx1 hy1).eq_of_free (Zay hfree i x hx1)
       subst hae
       obtain ⟨⟨fn, c', hfn, hb⟩, hcall⟩ := F.fn f g hx
       unfold Oper.wp
       rw [hrun, Zdx hfn (F.go f fn hfn) hb, Oper.upon_enter]
       refine (hcall args' v1 hfree hg w he.tabw).mono ?_
       rintro e2 w2 ⟨rfl, hbel⟩
       exact hK v1 w2 ι (Step.below he hbel) Dom.refl (VR.of_free hfv)
      ·cases h
     ·have hcalls := ihF f args s v s' h ho ι w args' hargs he hf
      cases fu with
      | zero => simp [Zfg] at h
      | succ fu' =>
       have h' := h
       simp only [Zfg] at h'
       split at h'
       ·rename_i fn hfn
        split at h'
        ·rename_i c' hb
         unfold Oper.wp
         rw [hrun, Zdx hfn (F.go f fn hfn) hb, Oper.upon_enter]
         refine hcalls.mono ?_
         rintro e2 w2 ⟨v', ι', rfl, g1, g2, g3⟩
         exact hK v' w2 ι' g1 g2 g3
        ·cases h'
       ·cases h'
    ·cases h
   ·split at h
    ·rename_i v1 s1 h1
     injection h with h
     obtain ⟨e1, e2, e3⟩ := Zxv h ho
     subst e1
     rw [e2, e3] at hK
     rw [e3] at hf
     have := Zvm hρ he hf (ZaG (Ztt h).ob ho) h1
     rw [← hex] at this
     exact Zj8 this hK
    ·cases h
  ·simp only [Zfg] at h
   split at h
   ·rename_i fn hfn
    split at h
    ·rename_i c hb
     obtain ⟨hsz, h⟩ := Zo h
     have hle : args.size ≤ fn.ntmps := Nat.le_of_ble_eq_true hsz
     split at h
     ·cases h
     ·rename_i ex T1 s1 hne h1
      have hs : s' = s1 ∧ (match ZbT P T1 s1 fn.results.toList with | some [v] => some v | some vs => some (.tuple vs.toArray) | none => none) = some v := by
       split at h
       ·rename_i hr; injection h with h; injection h with q1 q2; subst q1 q2; exact ⟨rfl, by first | rw [hr] | rfl⟩
       ·rename_i vs hn hr; injection h with h; injection h with q1 q2; subst q1 q2
        refine ⟨rfl, ?_⟩
        try rw [hr]
        rcases vs with _ | ⟨x, _ | ⟨y, vs⟩⟩
        ·rfl
        ·exact absurd rfl (hn x)
        ·rfl
       ·cases h
      obtain ⟨rfl, hres⟩ := hs
      refine calls_of_wp hfn hb (wp_mono (ihC fn.ntmps c _ s ex T1 s' h1 ho ι [] _ w (Zhs ha hle) he hf) ?_)
      rintro e2 a2 w2 ⟨rfl, ι2, g1, g2, g3⟩
      obtain ⟨v', hrun, hv⟩ := Zga g3 g1.emb hres
      cases ex with
      | normal => exact ⟨g3.2.1, v', hrun, v', ι2, rfl, g1, g2, hv⟩
      | ret => exact ⟨g3.2.1, v', hrun, v', ι2, rfl, g1, g2, hv⟩
      | exit i => exact (hne i rfl).elim
     ·cases h
    ·cases h
   ·cases h

theorem Ztw {ι : Ren} : VRs ι ([] : List Value).toArray ([] : List Value).toArray := ⟨rfl, fun i x y hx => by simp at hx⟩
theorem Zry {ι : Ren} {x y : Value} {l l' : List Value} (h : VR ι x y) (t : VRs ι l.toArray l'.toArray) : VRs ι (x :: l).toArray (y :: l').toArray := by
 refine ⟨by simpa using t.1, fun i u v hu hv => ?_⟩
 cases i with
 | zero => simp at hu hv; subst hu hv; exact h
 | succ i => exact t.2 i u v (by simpa using hu) (by simpa using hv)
theorem VRs.of_free {ι : Ren} {args : Array Value} (ha : Zw Zbl args.toList = true) : VRs ι args args := ⟨rfl, fun i x y hx hy => by rw [hx] at hy; injection hy with hy; subst hy; exact VR.of_free (Zay ha i x hx)⟩
end
end Ev
end Go.Proofs.YtlbbiflodemagaaDoor
/- Functions with deferred calls. -/
namespace Go.Proofs.YtlbbiflodemagaaDoor
open Go.RowKit
namespace Ev
noncomputable section
def Ztx (o : Oper) : Option Call :=
 match o.op with
 | .defer c => some c
 | _ => none
def Zgb (P : Program) (ext : FuncId → Option Ext) (nt fu : Nat) (ops : Array Oper) : List Oper → Tr Value → St → List (FuncId × Array Value) → Option (Tr Value × St × List (FuncId × Array Value))
 | [], T, s, ds => some (T, s, ds)
 | o :: l, T, s, ds =>
  bif Zec nt o.dst && Zw ZfY o.op.operands.toList then
   match Zeg ops T o s with
   | some (true, s1) => match Ztx o with
    | some c => match callee (opnd T) c with
     | some (f, args) => Zgb P ext nt fu ops l (Zc6 T o.dst undef) s1 ((f, args) :: ds)
     | none => none
    | none => match ZfP P ext fu (opnd T) o s1 with
     | some (v, s') => Zgb P ext nt fu ops l (Zc6 T o.dst v) s' ds
     | none => none
   | some (false, s1) => Zgb P ext nt fu ops l (Zc6 T o.dst undef) s1 ds
   | none => none
  else none
def evD (P : Program) (ext : FuncId → Option Ext) (nt : Nat) : Nat → Code → Tr Value → St → List (FuncId × Array Value) → Option (Bool × Tr Value × St × List (FuncId × Array Value))
 | 0, _, _, _, _ => none
 | fu + 1, c, T, s, ds => match c with
  | .seq a b => match evD P ext nt fu a T s ds with
   | some (false, T', s', ds') => evD P ext nt fu b T' s' ds'
   | some (true, T', s', ds') => some (true, T', s', ds')
   | none => none
  | .cond x a b => match opnd T x with
   | .bool t => match t with
    | true => evD P ext nt fu a T s ds
    | false => evD P ext nt fu b T s ds
   | _ => none
  | .region _ ops draw => match draw with
   | true => none
   | false => match Zgb P ext nt fu ops ops.toList T s ds with
    | some (T', s', ds') => some (false, T', s', ds')
    | none => none
  | .skip => some (false, T, s, ds)
  | .ret => some (true, T, s, ds)
  | _ => none
end
section
variable {P : Program} {ext : FuncId → Option Ext}
def DR (ι : Ren) : List (FuncId × Array Value) → List Deferred → Prop
 | [], [] => True
 | d :: ds, x :: D => (∃ b, x.target = .fn (.func d.1) b ∧ VRs ι d.2 (x.args ++ b)) ∧ DR ι ds D
 | _, _ => False
theorem DR.on {ι ι' : Ren} (hi : ∀ k b, ι k = some b → ι' k = some b) : ∀ {ds : List (FuncId × Array Value)} {D : List Deferred}, DR ι ds D → DR ι' ds D
 | [], [], _ => trivial
 | [], _ :: _, h => h.elim
 | _ :: _, [], h => h.elim
 | _ :: _, _ :: _, h => ⟨let ⟨b, h1, h2⟩ := h.1; ⟨b, h1, h2.ext hi⟩, DR.on hi h.2⟩
theorem ZsS {ι : Ren} {ρ ρ' : Operand → Value} {o : Oper} {c : Call} {f : FuncId} {args : Array Value} (hρ : ∀ x, VR ι (ρ x) (ρ' x)) (ho : o.op = .defer c) (h : callee ρ c = some (f, args)) (w : World) :
  ∃ d b, (execOp ρ' o).run P w = .ok (.defer d) w ∧ d.target = .fn (.func f) b ∧ VRs ι args (d.args ++ b) := by
 unfold callee at h
 split at h
 ·rename_i x hx
  split at h
  ·rename_i g a b hg
   injection h with h; injection h with h1 h2; subst h1 h2
   have hv := hg ▸ hρ x
   have : ∃ a' b', ρ' x = .func (.func g) a' b' ∧ VRs ι a a' ∧ VRs ι b b' := by
    generalize ρ' x = x' at hv
    cases hv with
    | atom h =>
     simp [Ev.atom] at h
     obtain ⟨rfl, rfl⟩ := h
     exact ⟨_, _, rfl, ⟨rfl, fun i x y hx => by simp at hx⟩, ⟨rfl, fun i x y hx => by simp at hx⟩⟩
    | func hs ht h1 h2 => exact ⟨_, _, rfl, ⟨hs, h1⟩, ⟨ht, h2⟩⟩
   obtain ⟨a', b', hx', ha, hb⟩ := this
   refine ⟨{ target := .fn (.func g) b', args := a' ++ c.args.map ρ' }, b', ?_, rfl, ZgF (ZgF ha (Zki hρ c.args)) hb⟩
   simp [execOp, ho, resolve, hx, hx', Deferred.ofValue, Result.andThen, Sem.run]
  ·cases h
 ·cases h
theorem Zkl (F : Fit P ext) {nt fu : Nat} {ops : Array Oper} : ∀ (l : List Oper) (T : Tr Value) (s : St) (ds : List (FuncId × Array Value)) (T' : Tr Value) (s' : St) (ds' : List (FuncId × Array Value)), Zgb P ext nt fu ops l T s ds = some (T', s', ds') → Up s s'
 | [], T, s, ds, T', s', ds', h => by simp only [Zgb] at h; injection h with h; simp only [Prod.mk.injEq] at h; obtain ⟨_, rfl, _⟩ := h; exact Up.refl _
 | o :: l, T, s, ds, T', s', ds', h => by
  simp only [Zgb] at h
  replace h := (Zo h).2
  have uP := (Zc7 (P := P) (ext := ext) (fun f g hg => (F.hp f g hg).up) fu).2.2.1
  split at h
  ·split at h
   ·split at h
    ·exact (Za4 (by assumption)).trans (Zkl F l _ _ _ _ _ _ h)
    ·cases h
   ·split at h
    ·exact (Za4 (by assumption)).trans ((uP _ _ _ _ _ (by assumption)).trans (Zkl F l _ _ _ _ _ _ h))
    ·cases h
  ·exact (Za4 (by assumption)).trans (Zkl F l _ _ _ _ _ _ h)
  ·cases h
theorem Zja (F : Fit P ext) {nt : Nat} : ∀ (fu : Nat) (c : Code) (T : Tr Value) (s : St) (ds : List (FuncId × Array Value)) (r : Bool) (T' : Tr Value) (s' : St) (ds' : List (FuncId × Array Value)), evD P ext nt fu c T s ds = some (r, T', s', ds') → Up s s'
 | 0, _, _, _, _, _, _, _, _, h => by simp [evD] at h
 | fu + 1, c, T, s, ds, r, T', s', ds', h => by
  cases c <;> simp only [evD] at h
  case seq a b =>
   split at h
   ·exact (Zja F fu _ _ _ _ _ _ _ _ (by assumption)).trans (Zja F fu _ _ _ _ _ _ _ _ h)
   ·injection h with h; simp only [Prod.mk.injEq] at h; obtain ⟨_, _, rfl, _⟩ := h; exact Zja F fu _ _ _ _ _ _ _ _ (by assumption)
   ·cases h
  case cond x a b =>
   split at h
   ·split at h
    ·exact Zja F fu _ _ _ _ _ _ _ _ h
    ·exact Zja F fu _ _ _ _ _ _ _ _ h
   ·cases h
  case region id ops draw =>
   split at h
   ·cases h
   ·split at h
    ·injection h with h; simp only [Prod.mk.injEq] at h; obtain ⟨_, _, rfl, _⟩ := h; exact Zkl F _ _ _ _ _ _ _ (by assumption)
    ·cases h
  case skip => injection h with h; simp only [Prod.mk.injEq] at h; obtain ⟨_, _, rfl, _⟩ := h; exact Up.refl _
  case ret => injection h with h; simp only [Prod.mk.injEq] at h; obtain ⟨_, _, rfl, _⟩ := h; exact Up.refl _
  all_goals cases h
theorem Zi0 (F : Fit P ext) {nt fu : Nat} {ops : Array Oper} : ∀ (l : List Oper) (T : Tr Value) (s : St) (ds : List (FuncId × Array Value)) (T' : Tr Value) (s' : St) (ds' : List (FuncId × Array Value)), Zgb P ext nt fu ops l T s ds = some (T', s', ds') → (∀ p ∈ s'.ob, p.1 = p.2) →
  ∀ ι D a w (Q : Exit → Act → World → Prop), TR ι nt D T a → DR ι ds D → Emb P ι s.h.get w → Fresh ι s.n s'.n →
   (∀ ι' D' a' w', Step P ι s.h.get w ι' s'.h.get w' → Dom ι ι' s.n s'.n → TR ι' nt D' T' a' → DR ι' ds' D' → Q .normal a' w') → wpList P ops Q l a w
 | [], T, s, ds, T', s', ds', h, ho, ι, D, a, w, Q, hT, hD, he, hf, hQ => by
  simp only [Zgb] at h
  injection h with h; simp only [Prod.mk.injEq] at h; obtain ⟨rfl, rfl, rfl⟩ := h
  exact hQ ι D a w (Step.refl he) Dom.refl hT hD
 | o :: l, T, s, ds, T', s', ds', h, ho, ι, D, a, w, Q, hT, hD, he, hf, hQ => by
  simp only [Zgb] at h
  obtain ⟨hg, h⟩ := Zo h
  simp only [Bool.and_eq_true] at hg
  unfold wpList
  split at h
  ·rename_i s1 hw
   have u1 := Za4 hw
   obtain ⟨hwant, e2, e3⟩ := Zcm (fun t _ => hT.2.2 t) hw
   rw [if_pos hwant]
   split at h
   ·rename_i c hc
    have hop : o.op = .defer c := by
     unfold Ztx at hc
     split at hc
     ·rename_i c' h'; injection hc with hc; subst hc; exact h'
     ·cases hc
    split at h
    ·rename_i f args hcal
     obtain ⟨d, b, hrun, h1, h2⟩ := ZsS (P := P) hT.opnd hop hcal w
     rw [Zfk (fun cs b e => by rw [hop] at e; cases e) hg.2] at hrun
     refine .inl ?_
     unfold Oper.wp
     rw [hrun, Oper.upon_defer]
     refine Zi0 F l _ s1 _ T' s' ds' h ho ι (d :: D) _ w Q ?_ ⟨⟨b, h1, h2⟩, hD⟩ (e2 ▸ he) (e3 ▸ hf) fun ι2 D2 a2 w2 k1 k2 k3 k4 => hQ ι2 D2 a2 w2 (e2 ▸ k1) (e3 ▸ k2) k3 k4
     exact TR.put (a := { a with defers := d :: a.defers }) ⟨hT.1, by rw [hT.2.1], hT.2.2⟩ hg.1 VR.undef'
    ·cases h
   ·split at h
    ·rename_i v s2 hv
     have ua := Zc7 (P := P) (ext := ext) (fun f g hg => (F.hp f g hg).up) fu
     have u2 := ua.2.2.1 _ _ _ _ _ hv
     have u3 := Zkl F _ _ _ _ _ _ _ h
     refine .inl ((Zfl F fu).2.2.1 (opnd T) (Zc2 a) o s1 v s2 hv (ZaG u3.ob ho) ι w hT.opnd (e2 ▸ he) (e3 ▸ (hf.mono (Nat.le_refl _) u3.n)) a _ Q (Zfk (ZiZ hv) hg.2).symm fun v' w' ι' g1 g2 g3 => ?_)
     rw [e2] at g1
     rw [e3] at g2
     have hle : s.n ≤ s2.n := by rw [← e3]; exact u2.n
     exact Zi0 F l (Zc6 T o.dst v) s2 ds T' s' ds' h ho ι' D _ w' Q ((hT.on g1.ext).put hg.1 g3) (hD.on g1.ext) g1.emb (hf.after g2 hle) fun ι2 D2 a2 w2 k1 k2 k3 k4 =>
      hQ ι2 D2 a2 w2 (g1.trans k1) (g2.trans k2 hle u3.n) k3 k4
    ·cases h
  ·rename_i s1 hw
   have u1 := Za4 hw
   obtain ⟨hwant, e2, e3⟩ := Zcm (fun t _ => hT.2.2 t) hw
   rw [if_neg (by rw [hwant]; simp)]
   exact Zi0 F l (Zc6 T o.dst undef) s1 ds T' s' ds' h ho ι D _ w Q (hT.put hg.1 VR.undef') hD (e2 ▸ he) (e3 ▸ hf) fun ι2 D2 a2 w2 k1 k2 k3 k4 => hQ ι2 D2 a2 w2 (e2 ▸ k1) (e3 ▸ k2) k3 k4
  ·cases h
def PostD (P : Program) (ι : Ren) (s : St) (w : World) (nt : Nat) (r : Bool) (T' : Tr Value) (s' : St) (ds' : List (FuncId × Array Value)) (ex : Exit) (a' : Act) (w' : World) : Prop :=
 ex = (match r with | true => .ret | false => .normal) ∧ ∃ ι' D', Step P ι s.h.get w ι' s'.h.get w' ∧ Dom ι ι' s.n s'.n ∧ TR ι' nt D' T' a' ∧ DR ι' ds' D'
theorem Zht (F : Fit P ext) {nt : Nat} : ∀ (fu : Nat) (c : Code) (T : Tr Value) (s : St) (ds : List (FuncId × Array Value)) (r : Bool) (T' : Tr Value) (s' : St) (ds' : List (FuncId × Array Value)), evD P ext nt fu c T s ds = some (r, T', s', ds') → (∀ p ∈ s'.ob, p.1 = p.2) →
  ∀ ι D a w, TR ι nt D T a → DR ι ds D → Emb P ι s.h.get w → Fresh ι s.n s'.n → c.wp P (PostD P ι s w nt r T' s' ds') a w
 | 0, _, _, _, _, _, _, _, _, h => by simp [evD] at h
 | fu + 1, c, T, s, ds, r, T', s', ds', h => by
  intro ho ι D a w hT hD he hf
  cases c <;> simp only [evD] at h
  case seq x y =>
   split at h
   ·rename_i T1 s1 ds1 h1
    have u1 := Zja F fu _ _ _ _ _ _ _ _ h1
    have u2 := Zja F fu _ _ _ _ _ _ _ _ h
    refine wp_seq (wp_mono (Zht F fu x T s ds _ T1 s1 ds1 h1 (ZaG u2.ob ho) ι D a w hT hD he (hf.mono (Nat.le_refl _) u2.n)) ?_)
    rintro ex a1 w1 ⟨rfl, ι1, D1, g1, g2, g3, g4⟩
    refine wp_mono (Zht F fu y T1 s1 ds1 r T' s' ds' h ho ι1 D1 a1 w1 g3 g4 g1.emb (hf.after g2 u1.n)) ?_
    rintro ex a2 w2 ⟨rfl, ι2, D2, k1, k2, k3, k4⟩
    exact ⟨rfl, ι2, D2, g1.trans k1, g2.trans k2 u1.n u2.n, k3, k4⟩
   ·rename_i T1 s1 ds1 h1
    injection h with h; simp only [Prod.mk.injEq] at h; obtain ⟨rfl, rfl, rfl, rfl⟩ := h
    refine wp_seq (wp_mono (Zht F fu x T s ds _ _ _ _ h1 ho ι D a w hT hD he hf) ?_)
    rintro ex a1 w1 ⟨rfl, hq⟩
    exact ⟨rfl, hq⟩
   ·cases h
  case cond x y z =>
   split at h
   ·rename_i t ht
    have hx : a.eval x = .bool t := ZfH ((ht ▸ hT.opnd x : VR ι (.bool t) (Zc2 a x)).bool_inv)
    split at h
    ·exact wp_cond_true hx (Zht F fu y T s ds r T' s' ds' h ho ι D a w hT hD he hf)
    ·exact wp_cond_false hx (Zht F fu z T s ds r T' s' ds' h ho ι D a w hT hD he hf)
   ·cases h
  case region id ops draw =>
   split at h
   ·cases h
   ·split at h
    ·rename_i T1 s1 ds1 h1
     injection h with h; simp only [Prod.mk.injEq] at h; obtain ⟨rfl, rfl, rfl, rfl⟩ := h
     exact wp_region_list (Zi0 F ops.toList T s ds T1 s1 ds1 h1 ho ι D a w _ hT hD he hf fun ι' D' a' w' g1 g2 g3 g4 => ⟨rfl, ι', D', g1, g2, g3, g4⟩)
    ·cases h
  case skip => injection h with h; simp only [Prod.mk.injEq] at h; obtain ⟨rfl, rfl, rfl, rfl⟩ := h; exact wp_skip ⟨rfl, ι, D, Step.refl he, Dom.refl, hT, hD⟩
  case ret => injection h with h; simp only [Prod.mk.injEq] at h; obtain ⟨rfl, rfl, rfl, rfl⟩ := h; exact wp_ret ⟨rfl, ι, D, Step.refl he, Dom.refl, hT, hD⟩
  all_goals cases h
end
end Ev
end Go.Proofs.YtlbbiflodemagaaDoor
