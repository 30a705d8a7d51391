/- Part 2. -/
import Derived.Test.YtlbbiflodemagaaDoorZaa
import Derived.MapKept
import Derived.WideKeyRuns
import Derived.Lib.ConvBytes
import Derived.Laws.BytesString
import Derived.Laws.StructEq
import Derived.Laws.LoneSync
import Derived.Orders
import Derived.LoopN
import Derived.Scope
import Derived.Defers
set_option linter.unusedSimpArgs false
set_option linter.unusedVariables false
/- Maps whose keys are numbers: each operation of the runner against the model's own. -/
namespace Go.Proofs.YtlbbiflodemagaaDoor
open Go.RowKit
namespace Ev
section
variable {P : Program} {ι : Ren} {w : World} {ρ ρ' : Operand → Value} {s s' : St} {v : Value}
theorem Zts {es es' : List MapEntry} (h : kvs es = kvs es') (i : Nat) : (es[i]?).map (fun e => (e.key, e.val)) = (es'[i]?).map (fun e => (e.key, e.val)) := by
 have := congrArg (fun l => l[i]?) h
 simpa [kvs] using this
theorem Zlq {d : TypeDesc} {k : Value} : ∀ {es es' : List MapEntry} (i : Nat), kvs es = kvs es' → Instr.findNow d k es i = Instr.findNow d k es' i
 | [], [], _, _ => rfl
 | [], _ :: _, _, h => by simp [kvs] at h
 | _ :: _, [], _, h => by simp [kvs] at h
 | e :: es, e' :: es', i, h => by
  simp only [kvs, List.map_cons, List.cons.injEq, Prod.mk.injEq] at h
  simp only [Instr.findNow]
  rw [h.1.1, h.1.2, Zlq (i + 1) h.2]
theorem ZtX {es es' : List MapEntry} (h : kvs es = kvs es') (i : Nat) (k x : Value) (f g : MapEntry → MapEntry) (hf : ∀ e, (f e).key = k ∧ (f e).val = x) (hg : ∀ e, (g e).key = k ∧ (g e).val = x) : kvs (es.modify i f) = kvs (es'.modify i g) := by
 apply List.ext_getElem?
 intro j
 simp only [kvs, List.getElem?_map, List.getElem?_modify]
 have hj := Zts h j
 cases h1 : es[j]? <;> cases h2 : es'[j]? <;> rw [h1, h2] at hj <;> simp at hj ⊢
 rename_i a b
 by_cases hij : i = j
 ·simp [hij, (hf a).1, (hf a).2, (hg b).1, (hg b).2]
 ·simp [hij, hj]
theorem Zqp {q : IntKind} {k : Value} : ∀ (l : List MapEntry) (i : Nat) (r : Nat × Value), Instr.findNow (.int q) k l i = some (some r) → ∃ e, l[r.1 - i]? = some e ∧ e.key = k ∧ i ≤ r.1 ∧ ∃ j n, k = .int j n
 | [], i, r, h => by simp [Instr.findNow] at h
 | e :: l, i, r, h => by
  simp only [Instr.findNow] at h
  split at h
  ·rename_i hs
   injection h with h; injection h with h; subst h
   unfold Instr.sameNow at hs
   split at hs
   ·rename_i a b c d hk
    split at hs
    ·injection hs with hs
     rename_i hab
     have := beq_iff_eq.1 hs
     subst this hab
     exact ⟨e, by simp, hk, Nat.le_refl _, _, _, rfl⟩
    ·cases hs
   ·exact absurd ‹TypeDesc.int q = TypeDesc.string› (by simp)
   ·exact absurd ‹TypeDesc.int q = TypeDesc.bool› (by simp)
   ·cases hs
  ·obtain ⟨e', h1, h2, h3, h4⟩ := Zqp l (i + 1) r h
   refine ⟨e', ?_, h2, by omega, h4⟩
   rw [show r.1 - i = (r.1 - (i + 1)) + 1 by omega]
   exact h1
  ·cases h
theorem Zmc {kt : TypeId} {q : IntKind} (hk : P.underlying kt = some (.int q)) (k : Value) (e : Bool) (n : Nat) : (Instr.checkKey e (n + 1) kt k).run P w = .ok () w := by
 simp only [Instr.checkKey, Sem.run_bind, run_underlying hk, Result.andThen]
 cases k <;> rfl
theorem ZgR {r : Nat} {o : Obj} {es : Array MapEntry} {c : Nat} (hB : w.heap[r]? = some (.map es c)) : (setObj r o).run P w = .ok () { w with heap := w.heap.setIfInBounds r o } ∧ ({ w with heap := w.heap.setIfInBounds r o } : World).heap[r]? = some o ∧ (∀ i, i ≠ r → ({ w with heap := w.heap.setIfInBounds r o } : World).heap[i]? = w.heap[i]?) ∧ ({ w with heap := w.heap.setIfInBounds r o } : World).heap.size = w.heap.size :=
 ⟨Go.MapKept.run_setObj_map o hB, (Go.MapKept.heap_set hB).1, (Go.MapKept.heap_set hB).2, by simp⟩
theorem VR.map_inv {k : Nat} {v' : Value} (h : VR ι (.map (some k)) v') : ∃ b, ι k = some b ∧ v' = .map (some b.1) := by
 cases h with
 | atom h => simp [Ev.atom] at h
 | map h => exact ⟨_, h, rfl⟩
theorem VR.map_none {v' : Value} (h : VR ι (.map none) v') : v' = .map none := h.eq_of_atom rfl
theorem Zik (he : Emb P ι s.h.get w) {k : Nat} {es : List MapEntry} (h : Zf5 s (.map (some k)) = some es) : ∃ (b : Nat × Nat) (es' : Array MapEntry) (c : Nat), ι k = some b ∧ w.heap[b.1]? = some (.map es' c) ∧ kvs es = kvs es'.toList ∧ ∃ O, s.h.get k = some (.ro O true) := by
 simp only [Zf5] at h
 split at h
 ·rename_i a c hk
  injection h with h
  subst h
  obtain ⟨b, hb, ⟨es1, c1, es', c', e1, e2, e3⟩ | ⟨b1, p1, e1, _⟩⟩ := he.ro k _ hk
  rotate_left
  ·cases e1
  injection e1 with e1
  subst e1
  exact ⟨b, es', c', hb, e2, e3, _, hk⟩
 ·cases h
theorem ZtY {t : TypeId} {z : Value} (h : ZqZ P t = some z) : (zeroValue t).run P w = .ok z w ∧ ZaT z = true := by
 unfold ZqZ at h
 split at h
 ·rename_i i hi
  split at h
  ·rename_i u hu
   obtain ⟨h1, h2⟩ := Zn h
   injection h2 with h2
   subst h2
   exact ⟨by simp [zeroValue, typeInfo, hi, hu, Result.andThen], h1⟩
  ·cases h
 ·cases h
theorem ZsS {t : TypeId} (h : Zrp P t = true) (v : Value) (e : Bool) (n : Nat) : (Instr.checkKey e (n + 1) t v).run P w = .ok () w := by
 unfold Zrp at h
 split at h
 ·rename_i q hq; exact Zmc hq v e n
 ·rename_i hq
  simp only [Instr.checkKey, Sem.run_bind, run_underlying hq, Result.andThen]
  cases v <;> rfl
 ·rename_i hq
  simp only [Instr.checkKey, Sem.run_bind, run_underlying hq, Result.andThen]
  cases v <;> rfl
 ·cases h
theorem Zo2 {kt : TypeId} (hk : P.underlying kt = some .string) (k : Value) (e : Bool) (n : Nat) : (Instr.checkKey e (n + 1) kt k).run P w = .ok () w := by
 simp only [Instr.checkKey, Sem.run_bind, run_underlying hk, Result.andThen]
 cases k <;> rfl
theorem ZuV {t : TypeId} {cs : Array Value} {o : Nat} (h : (Zf2 P t cs o).isSome) : ∃ v, (part t cs o).run P w = .ok v w := by
 obtain ⟨v, hv⟩ := Option.isSome_iff_exists.1 h
 unfold Zf2 at hv
 split at hv
 ·rename_i m hsh
  obtain ⟨hA, i, hi, him⟩ := Zf8 (w := w) hsh
  subst him
  exact ⟨.agg (cs.extract o (o + i.size)), by simp [part, hA, Result.andThen, sizeOf, typeInfo, hi, Sem.run]⟩
 ·rename_i m hsh
  obtain ⟨hA, _⟩ := Zf8 (w := w) hsh
  have hlt : o < cs.size := (Array.getElem?_eq_some_iff.1 hv).1
  exact ⟨cs[o], by simp [part, hA, Result.andThen, Sem.run, Array.getElem?_eq_getElem hlt]⟩
 ·cases hv
theorem Zo3 {kt : TypeId} {fs : Array Field} (hk : P.underlying kt = some (.struct fs)) {cs : Array Value} (e : Bool) (n : Nat) (h : ZqY P cs fs.toList = true) : (Instr.checkKey e (n + 2) kt (.agg cs)).run P w = .ok () w := by
 rw [Instr.checkKey]
 simp only [Sem.run_bind, run_underlying hk, Result.andThen_ok]
 rw [← Array.forIn_toList]
 generalize fs.toList = l at h
 clear hk
 induction l with
 | nil => simp
 | cons f l ih =>
  simp only [ZqY, Bool.and_eq_true, Bool.or_eq_true, beq_iff_eq] at h
  simp only [List.forIn_cons, Sem.run_bind, Sem.run_ite]
  rcases h.1 with h1 | h1
  ·simp only [h1, ne_eq, not_true_eq_false, if_false, Sem.run_pure, Result.andThen_ok]
   exact ih h.2
  ·by_cases hn : f.name = "_"
   ·simp only [hn, ne_eq, not_true_eq_false, if_false, Sem.run_pure, Result.andThen_ok]
    exact ih h.2
   ·obtain ⟨v, hv⟩ := ZuV (w := w) h1.2
    simp only [hn, ne_eq, not_false_eq_true, if_true, hv, ZsS h1.1 v e n, Result.andThen_ok, Sem.run_pure]
    exact ih h.2
theorem Zo4 {kt : TypeId} {k : Value} (hkf : ZaT k = true) : ∀ {es es' : List MapEntry} (i : Nat) {a : Option (Nat × Value)}, kvs es = kvs es' → ZlU P kt k es i = some a → (Instr.findAsking kt k es' i).run P w = .ok a w
 | [], [], _, a, _, h => by simp only [ZlU] at h; injection h with h; subst h; rfl
 | [], _ :: _, _, _, h, _ => by simp [kvs] at h
 | _ :: _, [], _, _, h, _ => by simp [kvs] at h
 | e :: es, e' :: es', i, a, hkv, h => by
  simp only [kvs, List.map_cons, List.cons.injEq, Prod.mk.injEq] at hkv
  simp only [ZlU] at h
  obtain ⟨hf, h⟩ := Zn h
  have hv := VR.of_free1 (ι := fun _ => none) hf
  have hk := VR.of_free1 (ι := fun _ => none) hkf
  split at h
  ·rename_i hq
   injection h with h
   subst h
   obtain ⟨_, _, _, _, _, hr⟩ := ZjW (w := w) hk hv hq
   rw [Instr.findAsking, ← hkv.1.1, ← hkv.1.2]
   simp [hr, Result.andThen, Sem.run]
  ·rename_i hq
   obtain ⟨_, _, _, _, _, hr⟩ := ZjW (w := w) hk hv hq
   rw [Instr.findAsking, ← hkv.1.1]
   simp only [Sem.run_bind, hr, Result.andThen_ok, Bool.false_eq_true, if_false]
   exact Zo4 hkf (i + 1) hkv.2 h
  ·cases h
theorem ZgS {kt : TypeId} {k : Value} {es es' : List MapEntry} {a : Option (Nat × Value)} (hkf : ZaT k = true) (hes : kvs es = kvs es') (h : Zbu P kt k es = some a) : (Instr.findKey kt k es').run P w = .ok a w ∧ ∀ e, (Instr.checkKey e 10000 kt k).run P w = .ok () w := by
 unfold Zbu at h
 split at h
 ·rename_i q hq
  rw [Zlq 0 hes] at h
  exact ⟨Go.MapKept.run_findKey hq h, fun e => Zmc hq k e 9999⟩
 ·rename_i hq
  rw [Zlq 0 hes] at h
  exact ⟨Go.MapKept.run_findKey hq h, fun e => Zo2 hq k e 9999⟩
 ·rename_i fs hq
  split at h
  ·rename_i cs
   obtain ⟨h1, h⟩ := Zn h
   refine ⟨?_, fun e => Zo3 hq e 9998 h1⟩
   rw [run_findKey_eq (w := w) (by rw [hq])]
   exact Zo4 hkf 0 hes h
  ·cases h
 ·cases h
theorem ZvU {z : Value} (h : ZaT z = true) : Zbv z = true := by
 cases z <;> first | exact h | (simp [ZaT, atom] at h)
theorem ZtZ {z : Value} {ok : Bool} {r : Option Value} (h1 : ZaT z = true) (h2 : Zjv r = true) : Zbv (Zgb z ok r) = true := by
 have h3 : ZaT (r.getD z) = true := by cases r with | none => exact h1 | some u => exact h2
 cases ok with
 | false => exact ZvU h3
 | true =>
  show (ZaT (r.getD z) && (true && true)) = true
  rw [h3]
  rfl
theorem Zua {t kt et : TypeId} {z k : Value} {ok : Bool} {r : Option (Nat × Value)} (hkf : ZaT k = true) (hm : P.underlying t = some (.map kt et)) (hz : (zeroValue et).run P w = .ok z w) (hr : Zbu P kt k [] = some r) :
  (Instr.lookup t (.map none) k ok).run P w = .ok (Zgb z ok (r.map (·.2))) w := by
 obtain ⟨ha, hc⟩ := ZgS (w := w) (es' := []) hkf rfl hr
 simp only [Instr.lookup, Sem.run_bind, Sem.run, run_underlying hm, Result.andThen, hc, ha, Sem.run_pure]
 cases r with
 | none => cases ok <;> simp [Zgb, hz, Result.andThen, Sem.run]
 | some a => cases ok <;> simp [Zgb, Result.andThen, Sem.run]
theorem Zub {t kt et : TypeId} {z k : Value} {ok : Bool} {r : Option (Nat × Value)} {b : Nat} {es : List MapEntry} {es' : Array MapEntry} {c : Nat} (hkf : ZaT k = true) (hm : P.underlying t = some (.map kt et)) (hz : (zeroValue et).run P w = .ok z w) (hB : w.heap[b]? = some (.map es' c)) (hkv : kvs es = kvs es'.toList) (hr : Zbu P kt k es = some r) :
  (Instr.lookup t (.map (some b)) k ok).run P w = .ok (Zgb z ok (r.map (·.2))) w := by
 obtain ⟨ha, hc⟩ := ZgS (w := w) hkf hkv hr
 simp only [Instr.lookup, Sem.run_bind, Sem.run, run_underlying hm, Result.andThen, Go.MapKept.run_getObj_map hB, hc, ha, Sem.run_pure]
 cases r with
 | none => cases ok <;> simp [Zgb, hz, Result.andThen, Sem.run]
 | some a => cases ok <;> simp [Zgb, Result.andThen, Sem.run]
theorem Zmd {o : Oper} {t : TypeId} {x ix : Operand} {ok : Bool} (ho : o.op = .lookup t x ix ok) (hρ : ∀ x, VR ι (ρ x) (ρ' x)) (he : Emb P ι s.h.get w) (h : ZeM P ρ t x ix ok s = some (v, s')) :
  s' = s ∧ Res P ((execOp ρ' o).run P w) s ι w v s' := by
 unfold ZeM at h
 split at h
 ·rename_i kt et hm
  split at h
  ·rename_i z es hz hes
   obtain ⟨hat, h⟩ := Zn h
   split at h
   ·rename_i r hr
    obtain ⟨hfr, h⟩ := Zn h
    injection h with h
    injection h with h1 h2
    subst h1 h2
    refine ⟨rfl, ?_⟩
    have hix : ρ' ix = ρ ix := (hρ ix).eq_of_free1 hat
    obtain ⟨hz1, hz2⟩ := ZtY (w := w) hz
    refine Res.same he (v' := Zgb z ok (r.map (·.2))) ?_ (VR.of_free (ZtZ hz2 hfr))
    have key : (Instr.lookup t (ρ' x) (ρ' ix) ok).run P w = .ok (Zgb z ok (r.map (·.2))) w := by
     rw [hix]
     cases hx : ρ x with
     | map m =>
      have hv := hx ▸ hρ x
      cases m with
      | none =>
       rw [hv.map_none]
       rw [hx] at hes
       injection hes with hes
       subst hes
       exact Zua hat hm hz1 hr
      | some k =>
       obtain ⟨b, hb, hx'⟩ := hv.map_inv
       rw [hx] at hes
       obtain ⟨b2, es', c, hb2, hB, hkv, _⟩ := Zik he hes
       rw [hb] at hb2; injection hb2 with hb2; subst hb2
       rw [hx']
       exact Zub hat hm hz1 hB hkv hr
     | _ => rw [hx] at hes; simp [Zf5] at hes
    simp [execOp, ho, key, Result.andThen, Sem.run]
   ·cases h
  ·cases h
 ·cases h
theorem Zme {o : Oper} {t : TypeId} {m k x : Operand} (ho : o.op = .mapUpdate t m k x) (hρ : ∀ x, VR ι (ρ x) (ρ' x)) (he : Emb P ι s.h.get w) (h : ZeN P ρ t m k x s = some (v, s')) :
  Res P ((execOp ρ' o).run P w) s ι w v s' := by
 unfold ZeN at h
 split at h
 ·rename_i kt et b0 hm hmm
  split at h
  ·rename_i es hes
   obtain ⟨hat, h⟩ := Zn h
   simp only [Bool.and_eq_true] at hat
   split at h
   ·rename_i l hl
    injection h with h
    injection h with h1 h2
    subst h1 h2
    have hk' : ρ' k = ρ k := (hρ k).eq_of_free1 hat.1
    have hx' : ρ' x = ρ x := (hρ x).eq_of_free1 hat.2
    obtain ⟨b, hb, hm'⟩ := (hmm ▸ hρ m).map_inv
    obtain ⟨b2, es', c, hb2, hB, hkv, O, hO⟩ := Zik he hes
    rw [hb] at hb2; injection hb2 with hb2; subst hb2
    have main : ∃ (es2 : Array MapEntry) (c2 : Nat), (Instr.mapUpdate t (ρ' m) (ρ' k) (ρ' x)).run P w = .ok () { w with heap := w.heap.setIfInBounds b.1 (.map es2 c2) } ∧ kvs l = kvs es2.toList := by
     rw [hm', hk', hx']
     unfold putM at hl
     split at hl
     ·rename_i hf
      obtain ⟨hf, hc⟩ := ZgS (w := w) hat.1 hkv hf
      injection hl with hl
      subst hl
      refine ⟨es'.push { key := ρ k, val := ρ x, born := c }, c + 1, ?_, by simp [kvs] at hkv ⊢; exact hkv⟩
      simp [Instr.mapUpdate, run_underlying hm, Result.andThen, Go.MapKept.run_getObj_map hB, hc, hf, (ZgR hB).1]
     ·rename_i r hf
      obtain ⟨hf, hc⟩ := ZgS (w := w) hat.1 hkv hf
      obtain ⟨hb, hl⟩ := Zn hl
      injection hl with hl
      subst hl
      have hkey : ((es'[r.1]?).map (·.key)).getD (ρ k) = ((es[r.1]?).map (·.key)).getD (ρ k) := by
       have := Zts hkv r.1
       rw [show es'.toList[r.1]? = es'[r.1]? from by simp] at this
       have h2 := congrArg (Option.map (·.1)) this
       simp only [Option.map_map] at h2
       have e : ∀ o : Option MapEntry, o.map ((fun x : Value × Value => x.1) ∘ fun e => (e.key, e.val)) = o.map (·.key) := fun o => by cases o <;> rfl
       rw [e, e] at h2
       rw [h2]
      have hst : (Instr.keyThatStays (((es[r.1]?).map (·.key)).getD (ρ k)) (ρ k)).run P w = .ok (ρ k) w := by
       simp [Instr.keyThatStays, hb, Sem.run]
      refine ⟨es'.modify r.1 fun e => { e with key := ρ k, val := ρ x }, c, ?_, ?_⟩
      ·simp [Instr.mapUpdate, run_underlying hm, Result.andThen, Go.MapKept.run_getObj_map hB, hc, hf, hkey, hst, (ZgR hB).1]
      ·rw [Array.toList_modify]
       exact ZtX hkv _ (ρ k) (ρ x) _ _ (fun e => ⟨rfl, rfl⟩) (fun e => ⟨rfl, rfl⟩)
     ·cases hl
    obtain ⟨es2, c2, hrun, hkv2⟩ := main
    obtain ⟨_, q1, q2, q3⟩ := ZgR (P := P) (o := .map es2 c2) hB
    refine ⟨.skip, { w with heap := w.heap.setIfInBounds b.1 (.map es2 c2) }, ι, undef, ?_, .inr ⟨rfl, rfl⟩, ?_, Dom.refl, VR.of_free rfl⟩
    ·simp [execOp, ho, hrun, Result.andThen, Sem.run]
    ·show Step P ι s.h.get w ι (s.h.set b0 (some (.ro (.map l.toArray 0) true))).get _
     rw [Tr.get_set]
     exact Step.storeM he hO hb (.inl ⟨_, _, es2, c2, rfl, q1, by simpa using hkv2⟩) q2 q3 rfl rfl rfl
   ·cases h
  ·cases h
 ·cases h
theorem Zqq : ∀ {es es' : List MapEntry} (h : kvs es = kvs es') (i : Nat), kvs (es.eraseIdx i) = kvs (es'.eraseIdx i)
 | [], [], _, _ => rfl
 | [], _ :: _, h, _ => by simp [kvs] at h
 | _ :: _, [], h, _ => by simp [kvs] at h
 | e :: es, e' :: es', h, 0 => by
  simp only [kvs, List.map_cons, List.cons.injEq] at h
  exact h.2
 | e :: es, e' :: es', h, i + 1 => by
  simp only [kvs, List.map_cons, List.cons.injEq] at h
  have := Zqq h.2 i
  simp only [kvs] at this
  simp only [List.eraseIdx_cons_succ, kvs, List.map_cons, h.1, this]
theorem Zr5 {t t2 ty : TypeId} {x x' k k' : Value} (hx : VR ι x x') (hk : VR ι k k') (he : Emb P ι s.h.get w) (h : Zjw P s t x k = some (v, s')) :
  ∃ w', (Builtin.delete_ #[t, t2] ty #[x', k']).run P w = .ok (.tuple #[]) w' ∧ Step P ι s.h.get w ι s'.h.get w' ∧ s'.n = s.n ∧ v = .tuple #[] := by
 unfold Zjw at h
 split at h
 ·rename_i kt et b0 hm
  split at h
  ·rename_i es hes
   obtain ⟨hkf, h⟩ := Zn h
   have hk' : k' = k := hk.eq_of_free1 hkf
   obtain ⟨b, hb, hx'⟩ := hx.map_inv
   obtain ⟨b2, es', c, hb2, hB, hkv, O, hO⟩ := Zik he hes
   rw [hb] at hb2; injection hb2 with hb2; subst hb2
   split at h
   ·rename_i r hf
    obtain ⟨hf, hc⟩ := ZgS (w := w) hkf hkv hf
    injection h with h
    injection h with h1 h2
    subst h1 h2
    obtain ⟨q0, q1, q2, q3⟩ := ZgR (P := P) (o := .map (es'.eraseIdxIfInBounds r.1) c) hB
    refine ⟨{ w with heap := w.heap.setIfInBounds b.1 (.map (es'.eraseIdxIfInBounds r.1) c) }, ?_, ?_, rfl, rfl⟩
    ·rw [hx', hk']
     simp [Builtin.delete_, run_underlying hm, Result.andThen, Sem.run, Go.MapKept.run_getObj_map hB, hc, hf, q0]
    ·show Step P ι s.h.get w ι (s.h.set b0 (some (.ro (.map (es.eraseIdx r.1).toArray 0) true))).get _
     rw [Tr.get_set]
     refine Step.storeM he hO hb (.inl ⟨_, _, _, c, rfl, q1, ?_⟩) q2 q3 rfl rfl rfl
     have : (es'.eraseIdxIfInBounds r.1).toList = es'.toList.eraseIdx r.1 := by
      unfold Array.eraseIdxIfInBounds
      split
      ·rw [Array.toList_eraseIdx]
      ·rename_i hi
       rw [List.eraseIdx_of_length_le (by simpa using hi)]
     rw [this]
     simpa using Zqq hkv r.1
   ·rename_i hf
    obtain ⟨hf, hc⟩ := ZgS (w := w) hkf hkv hf
    injection h with h
    injection h with h1 h2
    subst h1 h2
    obtain ⟨q0, q1, q2, q3⟩ := ZgR (P := P) (o := .map es' c) hB
    refine ⟨{ w with heap := w.heap.setIfInBounds b.1 (.map es' c) }, ?_, ?_, rfl, rfl⟩
    ·rw [hx', hk']
     simp [Builtin.delete_, run_underlying hm, Result.andThen, Sem.run, Go.MapKept.run_getObj_map hB, hc, hf, q0]
    ·show Step P ι s.h.get w ι (s.h.set b0 (some (.ro (.map es.toArray 0) true))).get _
     rw [Tr.get_set]
     exact Step.storeM he hO hb (.inl ⟨_, _, _, c, rfl, q1, by simpa using hkv⟩) q2 q3 rfl rfl rfl
   ·cases h
  ·cases h
 ·cases h
theorem Zr6 {t kt et ty : TypeId} {b0 : Nat} {x' : Value} {es : List MapEntry} (hm : P.underlying t = some (.map kt et)) (hx : VR ι (.map (some b0)) x') (he : Emb P ι s.h.get w) (hes : Zf5 s (.map (some b0)) = some es) : (Builtin.len_ #[t] ty #[x']).run P w = .ok (goInt es.length) w := by
 obtain ⟨b, hb, hx'⟩ := hx.map_inv
 obtain ⟨b2, es', c, hb2, hB, hkv, O, hO⟩ := Zik he hes
 rw [hb] at hb2; injection hb2 with hb2; subst hb2
 have hl : es.length = es'.size := by
  have := congrArg List.length hkv
  simpa [kvs] using this
 rw [hx']
 simp [Builtin.len_, run_underlying hm, Result.andThen, Sem.run, Go.MapKept.run_getObj_map hB, hl]
theorem ZsT {o : Oper} {t : TypeId} {x : Operand} (ho : o.op = .range t x) (hρ : ∀ x, VR ι (ρ x) (ρ' x)) (he : Emb P ι s.h.get w) (hf : Fresh ι s.n s'.n) (h : Zk2 P ρ t x s = some (v, s')) :
  Res P ((execOp ρ' o).run P w) s ι w v s' := by
 unfold Zk2 at h
 split at h
 ·rename_i b hu hx
  injection h with h
  injection h with h1 h2
  subst h1 h2
  have hx' : ρ' x = .string b := (hx ▸ hρ x).eq_of_atom rfl
  have st := Step.allocM he (Nat.lt_of_lt_of_le (Nat.lt_succ_self _) hf.1) (hf.2 s.n (Nat.le_refl _) (Nat.lt_succ_self _)) (O := .stringIter b 0) (O' := .stringIter b 0) (.inr ⟨_, _, rfl, rfl⟩) 0
  refine ⟨.value (.pointer (some ⟨w.heap.size, 0, none⟩)), w.alloc (.stringIter b 0), upd ι s.n (some (w.heap.size, 0)), .pointer (some ⟨w.heap.size, 0, none⟩), ?_, .inl rfl, ?_, Dom.one, .ptr (b := (w.heap.size, 0)) Zw⟩
  ·simp [execOp, ho, Instr.range, run_underlying hu, hx', newObj, Result.andThen, Sem.run]
  ·show Step P ι s.h.get w _ (s.h.set s.n (some (.ro (.stringIter b 0) true))).get _
   rw [Tr.get_set]
   exact st
 ·cases h
theorem Zuc {o : Oper} {it : Operand} {q : Bool} (ho : o.op = .next it q) (hρ : ∀ x, VR ι (ρ x) (ρ' x)) (he : Emb P ι s.h.get w) (h : ZlV ρ it q s = some (v, s')) :
  Res P ((execOp ρ' o).run P w) s ι w v s' := by
 unfold ZlV at h
 split at h
 ·rename_i k hx
  split at h
  ·rename_i b p hk
   obtain ⟨q0, hq, hR⟩ := he.ro k _ hk
   have hB : w.heap[q0.1]? = some (.stringIter b p) := by
    rcases hR with ⟨_, _, _, _, e, _⟩ | ⟨_, _, _, e⟩
    ·cases e
    ·exact e
   obtain ⟨q1, hq1, hit⟩ := (hx ▸ hρ it).ptr_inv
   rw [hq] at hq1; injection hq1 with hq1; subst hq1
   split at h
   ·rename_i hlt
    injection h with h
    injection h with h1 h2
    subst h1 h2
    refine ⟨.value (.tuple #[.bool true, goInt p, .int .i32 (Utf8.decode b p).1]), { w with heap := w.heap.setIfInBounds q0.1 (.stringIter b (p + (Utf8.decode b p).2)) }, ι, .tuple #[.bool true, goInt p, .int .i32 (Utf8.decode b p).1], ?_, .inl rfl, ?_, Dom.refl, VR.of_free rfl⟩
    ·simp [execOp, ho, Instr.next, hit, Sem.run, Result.andThen, getObj, setObj, hB, hlt]
    ·show Step P ι s.h.get w ι (s.h.set k (some (.ro (.stringIter b (p + (Utf8.decode b p).2)) true))).get _
     rw [Tr.get_set]
     have hl : q0.1 < w.heap.size := (Array.getElem?_eq_some_iff.1 hB).1
     exact Step.storeM he hk hq (.inr ⟨_, _, rfl, by simp [hl]⟩) (fun i hi => by simp [Array.getElem?_setIfInBounds, Ne.symm hi]) (by simp) rfl rfl rfl
   ·rename_i hlt
    injection h with h
    injection h with h1 h2
    subst h1 h2
    refine Res.same he (v' := .tuple #[.bool false]) ?_ (VR.of_free rfl)
    simp [execOp, ho, Instr.next, hit, Sem.run, Result.andThen, getObj, hB, hlt]
  ·cases h
 ·cases h
theorem ZqH {o : Oper} {t : TypeId} {r : Option Operand} (ho : o.op = .makeMap t r) (hρ : ∀ x, VR ι (ρ x) (ρ' x)) (he : Emb P ι s.h.get w) (hf : Fresh ι s.n s'.n) (h : Zih P ρ t r s = some (v, s')) :
  Res P ((execOp ρ' o).run P w) s ι w v s' := by
 have main : ∀ (hr : (Instr.makeMap t (r.map ρ')).run P w = .ok (.map (some w.heap.size)) (w.alloc (.map #[] 0))) (_ : v = .map (some s.n)) (_ : s' = s.addM (.map #[] 0)), Res P ((execOp ρ' o).run P w) s ι w v s' := by
  rintro hr rfl rfl
  have st := Step.allocM he (Nat.lt_of_lt_of_le (Nat.lt_succ_self _) hf.1) (hf.2 s.n (Nat.le_refl _) (Nat.lt_succ_self _)) (O := .map #[] 0) (O' := .map #[] 0) (.inl ⟨_, _, _, _, rfl, rfl, rfl⟩) 0
  refine ⟨.value (.map (some w.heap.size)), w.alloc (.map #[] 0), upd ι s.n (some (w.heap.size, 0)), .map (some w.heap.size), ?_, .inl rfl, ?_, Dom.one, .map (b := (w.heap.size, 0)) Zw⟩
  ·simp [execOp, ho, hr, Result.andThen, Sem.run]
  ·show Step P ι s.h.get w _ (s.h.set s.n (some (.ro (.map #[] 0) true))).get _
   rw [Tr.get_set]
   exact st
 unfold Zih at h
 split at h
 ·injection h with h
  injection h with h1 h2
  exact main (by simp [Instr.makeMap, newObj, Result.andThen, Sem.run]) h1.symm h2.symm
 ·rename_i x
  split at h
  ·rename_i kt et kk n hm hx
   injection h with h
   injection h with h1 h2
   have := (hx ▸ hρ x).int_inv
   exact main (by simp [Instr.makeMap, newObj, Result.andThen, Sem.run, run_underlying hm, this, asInt, asIntOf]) h1.symm h2.symm
  ·cases h
theorem ZsU {t ty : TypeId} {x x' : Value} (hx : VR ι x x') (he : Emb P ι s.h.get w) (h : Zk3 P s t x = some (v, s')) :
  ∃ w', (Builtin.clear_ #[t] ty #[x']).run P w = .ok (.tuple #[]) w' ∧ Step P ι s.h.get w ι s'.h.get w' ∧ s'.n = s.n ∧ v = .tuple #[] := by
 unfold Zk3 at h
 split at h
 ·rename_i kt et hm
  injection h with h
  injection h with h1 h2
  subst h1 h2
  refine ⟨w, ?_, Step.refl he, rfl, rfl⟩
  rw [hx.map_none]
  simp [Builtin.clear_, run_underlying hm, Result.andThen, Sem.run]
 ·rename_i kt et b0 hm
  split at h
  ·rename_i es hes
   injection h with h
   injection h with h1 h2
   subst h1 h2
   obtain ⟨b, hb, hx'⟩ := hx.map_inv
   obtain ⟨b2, es', c, hb2, hB, hkv, O, hO⟩ := Zik he hes
   rw [hb] at hb2; injection hb2 with hb2; subst hb2
   obtain ⟨q0, q1, q2, q3⟩ := ZgR (P := P) (o := .map #[] c) hB
   refine ⟨{ w with heap := w.heap.setIfInBounds b.1 (.map #[] c) }, ?_, ?_, rfl, rfl⟩
   ·rw [hx']
    simp [Builtin.clear_, run_underlying hm, Result.andThen, Sem.run, Go.MapKept.run_getObj_map hB, q0]
   ·show Step P ι s.h.get w ι (s.h.set b0 (some (.ro (.map #[] 0) true))).get _
    rw [Tr.get_set]
    exact Step.storeM he hO hb (.inl ⟨_, _, #[], c, rfl, q1, rfl⟩) q2 q3 rfl rfl rfl
  ·cases h
 ·cases h
theorem ZsV {kt : TypeId} {q : IntKind} (hk : P.underlying kt = some (.int q)) {k : Value} {es : List MapEntry} {r : Option Value} (h : ZqX q k es = some r) : ∃ a, Zbu P kt k es = some a ∧ a.map (·.2) = r := by
 unfold ZqX at h
 unfold Zbu
 rw [hk]
 split at h
 ·rename_i a ha
  injection h with h
  subst h
  exact ⟨some a, ha, rfl⟩
 ·rename_i ha
  injection h with h
  subst h
  exact ⟨none, ha, rfl⟩
 ·cases h
theorem ZuW {kt : TypeId} {q : IntKind} (hk : P.underlying kt = some (.int q)) {k x : Value} {es l : List MapEntry} (h : ZtR q k x es = some l) : putM P kt k x es = some l := by
 have hf : Zbu P kt k es = Instr.findNow (.int q) k es 0 := by unfold Zbu; rw [hk]
 unfold ZtR at h
 unfold putM
 rw [hf]
 split at h
 ·rename_i ha
  first | exact h | (rw [ha]; exact h)
 ·rename_i r ha
  obtain ⟨e, g1, g2, _, j, n, g3⟩ := Zqp _ _ _ ha
  have hkey : ((es[r.1]?).map (·.key)).getD k = k := by
   have : es[r.1]? = some e := by simpa using g1
   rw [this]
   exact g2
  first | rw [ha] | skip
  show (bif Instr.sameBits 10000 (((es[r.1]?).map (·.key)).getD k) k then _ else none) = _
  rw [hkey, g3]
  simp only [Instr.sameBits, beq_self_eq_true, Bool.and_self, cond_true]
  rw [← g3]
  exact h
 ·cases h
theorem Zud {t : TypeId} {x ix : Operand} {ok : Bool} {r : Option Value} (hob : ∀ p ∈ s'.ob, p.1 = p.2) (h : Zif P ρ t x ix ok r s = some (v, s')) : ∃ s1, ZeM P ρ t x ix ok s = some (v, s1) ∧ s'.h = s1.h ∧ s'.n = s1.n := by
 unfold Zif at h
 split at h
 ·rename_i kt et hm
  split at h
  ·rename_i q z es hk hz hes
   obtain ⟨hat, h⟩ := Zn h
   simp only [Bool.and_eq_true] at hat
   injection h with h
   injection h with h1 h2
   subst h1 h2
   have := Zab.1 (hob _ (List.mem_cons_self (a := (dP (ZqX q (ρ ix) es = some r), true))))
   obtain ⟨a, ha, rfl⟩ := ZsV hk this
   refine ⟨s, ?_, rfl, rfl⟩
   have hf1 : ZaT (ρ ix) = true := by
    have := hat.1
    cases hx : ρ ix <;> rw [hx] at this <;> first | exact this | (simp [atom] at this)
   simp only [ZeM, hm, hz, hes, hf1, ha, hat.2, cond_true]
  ·rename_i fs z es hk hz hes
   obtain ⟨hat, h⟩ := Zn h
   simp only [Bool.and_eq_true] at hat
   injection h with h
   injection h with h1 h2
   subst h1 h2
   have := Zab.1 (hob _ (List.mem_cons_self (a := (dP ((Zbu P kt (ρ ix) es).map (Option.map Prod.snd) = some r), true))))
   obtain ⟨a, ha, rfl⟩ := Option.map_eq_some_iff.1 this
   refine ⟨s, ?_, rfl, rfl⟩
   have hf2 : Zjv (a.map (·.2)) = true := hat.2
   simp only [ZeM, hm, hz, hes, hat.1, ha, hf2, cond_true]
  ·rename_i z es hk hz hes
   obtain ⟨hat, h⟩ := Zn h
   simp only [Bool.and_eq_true] at hat
   injection h with h
   injection h with h1 h2
   subst h1 h2
   have := Zab.1 (hob _ (List.mem_cons_self (a := (dP ((Zbu P kt (ρ ix) es).map (Option.map Prod.snd) = some r), true))))
   obtain ⟨a, ha, rfl⟩ := Option.map_eq_some_iff.1 this
   refine ⟨s, ?_, rfl, rfl⟩
   have hf2 : Zjv (a.map (·.2)) = true := hat.2
   simp only [ZeM, hm, hz, hes, hat.1, ha, hf2, cond_true]
  ·cases h
 ·cases h
theorem Zue {t : TypeId} {m k x : Operand} {l : List MapEntry} (hob : ∀ p ∈ s'.ob, p.1 = p.2) (h : Zig P ρ t m k x l s = some (v, s')) : ∃ s1, ZeN P ρ t m k x s = some (v, s1) ∧ s'.h = s1.h ∧ s'.n = s1.n := by
 unfold Zig at h
 split at h
 ·rename_i kt et b hm hmm
  split at h
  ·rename_i q es hk hes
   obtain ⟨hat, h⟩ := Zn h
   injection h with h
   injection h with h1 h2
   subst h1 h2
   have := Zab.1 (hob _ (List.mem_cons_self (a := (dP (ZtR q (ρ k) (ρ x) es = some l), true))))
   refine ⟨s.putM b (.map l.toArray 0), ?_, rfl, rfl⟩
   have hf1 : ZaT (ρ k) = true := by
    have := (Bool.and_eq_true_iff.1 hat).1
    cases hx : ρ k <;> rw [hx] at this <;> first | exact this | (simp [atom] at this)
   simp only [ZeN, hm, hmm, hes, hf1, (Bool.and_eq_true_iff.1 hat).2, Bool.and_self, ZuW hk this, cond_true]
  ·rename_i fs es hk hes
   obtain ⟨hat, h⟩ := Zn h
   injection h with h
   injection h with h1 h2
   subst h1 h2
   have := Zab.1 (hob _ (List.mem_cons_self (a := (dP (putM P kt (ρ k) (ρ x) es = some l), true))))
   refine ⟨s.putM b (.map l.toArray 0), ?_, rfl, rfl⟩
   simp only [ZeN, hm, hmm, hes, (Bool.and_eq_true_iff.1 hat).1, (Bool.and_eq_true_iff.1 hat).2, Bool.and_self, this, cond_true]
  ·rename_i es hk hes
   obtain ⟨hat, h⟩ := Zn h
   injection h with h
   injection h with h1 h2
   subst h1 h2
   have := Zab.1 (hob _ (List.mem_cons_self (a := (dP (putM P kt (ρ k) (ρ x) es = some l), true))))
   refine ⟨s.putM b (.map l.toArray 0), ?_, rfl, rfl⟩
   simp only [ZeN, hm, hmm, hes, (Bool.and_eq_true_iff.1 hat).1, (Bool.and_eq_true_iff.1 hat).2, Bool.and_self, this, cond_true]
  ·cases h
 ·cases h
end
end Ev
end Go.Proofs.YtlbbiflodemagaaDoor
/- Each operation of the runner against the model's own: all of them together. -/
namespace Go.Proofs.YtlbbiflodemagaaDoor
open Go.RowKit
namespace Ev
section
variable {P : Program} {ι : Ren} {w : World} {ρ ρ' : Operand → Value} {s s' : St} {v : Value}

theorem Zil {o : Oper} {op : BinOp} {t : TypeId} {x y : Operand} {yt : TypeId} (ho : o.op = .binOp op t x y yt) (hρ : ∀ x, VR ι (ρ x) (ρ' x)) (he : Emb P ι s.h.get w) (h : ZhY P ρ o op t x y s = some (v, s')) :
  s' = s ∧ Res P ((execOp ρ' o).run P w) s ι w v s' := by
 have hs : ∀ cs b, o.op ≠ .select cs b := fun cs b e => by rw [ho] at e; cases e
 unfold ZhY at h
 split at h
 ·rename_i q hq
  injection h with h
  injection h with h1 h2
  subst h1 h2
  obtain ⟨xs, ys, hx', hy', hg, hr⟩ := ZjW (w := w) (hρ x) (hρ y) hq
  have g := Zqo (P := P) (w := w) (op := .eql) (t := t) (x := x) (y := y) (xs := xs) (ys := ys) hg
  rw [hx', hy'] at hr
  exact ⟨rfl, Res.same he (v' := .bool q) (by simp [execOp, ho, hx', hy', g, (Ztr hr).1, Result.andThen, Sem.run]) (.atom rfl)⟩
 ·rename_i q hq
  injection h with h
  injection h with h1 h2
  subst h1 h2
  obtain ⟨xs, ys, hx', hy', hg, hr⟩ := ZjW (w := w) (hρ x) (hρ y) hq
  have g := Zqo (P := P) (w := w) (op := .neq) (t := t) (x := x) (y := y) (xs := xs) (ys := ys) hg
  rw [hx', hy'] at hr
  exact ⟨rfl, Res.same he (v' := .bool (!q)) (by simp [execOp, ho, hx', hy', g, (Ztr hr).2, Result.andThen, Sem.run]) (.atom rfl)⟩
 split at h
 ·rename_i r hr
  injection h with h
  subst h
  exact Zby hs hρ he hr
 ·split at h
  ·rename_i q hq _ _
   injection h with h
   injection h with h1 h2
   subst h1 h2
   obtain ⟨k1, k2⟩ := Zn0 hq
   have e1 := ZuT (w := w) (ZhG (hρ x) k1) (ZhG (hρ y) k2) (Zmb he (hρ x) (hρ y) hq)
   have g := Zo1 (P := P) (w := w) (op := .eql) (t := t) (x := x) (y := y) (b := ρ' y) (ZhG (hρ x) k1)
   exact ⟨rfl, Res.same he (v' := .bool q) (by simp [execOp, ho, g, e1, Result.andThen, Sem.run]) (.atom rfl)⟩
  ·rename_i q hq _ _
   injection h with h
   injection h with h1 h2
   subst h1 h2
   obtain ⟨k1, k2⟩ := Zn0 hq
   have e1 := ZuU (w := w) (ZhG (hρ x) k1) (ZhG (hρ y) k2) (Zmb he (hρ x) (hρ y) hq)
   have g := Zo1 (P := P) (w := w) (op := .neq) (t := t) (x := x) (y := y) (b := ρ' y) (ZhG (hρ x) k1)
   exact ⟨rfl, Res.same he (v' := .bool (!q)) (by simp [execOp, ho, g, e1, Result.andThen, Sem.run]) (.atom rfl)⟩
  ·cases h
theorem Zuf {o : Oper} {t : TypeId} {x y : Operand} {yt : TypeId} (ho : o.op = .binOp .rem t x y yt) (hρ : ∀ x, VR ι (ρ x) (ρ' x)) (he : Emb P ι s.h.get w) (hob : ∀ p ∈ s'.ob, p.1 = p.2) (h : ZlS ρ x y s = some (v, s')) :
  s'.h = s.h ∧ s'.n = s.n ∧ Res P ((execOp ρ' o).run P w) s ι w v s := by
 unfold ZlS at h
 split at h
 ·rename_i k a k' b hx hy
  injection h with h
  injection h with h1 h2
  subst h1 h2
  obtain ⟨hk, hb⟩ := Zab.1 (hob (dP (k = k' ∧ b ≠ 0), true) (by simp [St.told]))
  subst hk
  have hx' : ρ' x = .int k a := by have := hρ x; rw [hx] at this; exact this.eq_of_atom rfl
  have hy' : ρ' y = .int k b := by have := hρ y; rw [hy] at this; exact this.eq_of_atom rfl
  have g : (eqGuard .rem t x y (.int k a) (.int k b)).run P w = .ok () w := rfl
  have e1 : (binOp .rem t (.int k a) (.int k b)).run P w = .ok (.int k (Int.tmod a b)) w := by
   simp [binOp, Op.intDiv, hb, Sem.run]
  exact ⟨rfl, rfl, Res.same he (v' := .int k (Int.tmod a b)) (by simp [execOp, ho, hx', hy', g, e1, Result.andThen, Sem.run]) (.atom rfl)⟩
 ·cases h
theorem Zqr {o : Oper} {op : BinOp} {n : Nat} {t : TypeId} {x y : Operand} {yt : TypeId} (ho : o.op = .binOp op t x y yt) (hρ : ∀ x, VR ι (ρ x) (ρ' x)) (he : Emb P ι s.h.get w) (hob : ∀ p ∈ s'.ob, p.1 = p.2) (h : ZmJ ρ op x y n s = some (v, s')) :
  s'.h = s.h ∧ s'.n = s.n ∧ Res P ((execOp ρ' o).run P w) s ι w v s := by
 unfold ZmJ at h
 split at h
 ·rename_i k a k' b hx hy
  injection h with h
  injection h with h1 h2
  subst h1 h2
  obtain ⟨hb, hn⟩ := Zab.1 (hob (dP (b = Int.ofNat n ∧ n ≤ k.bits), true) (by simp [St.told]))
  have hx' : ρ' x = .int k a := by have := hρ x; rw [hx] at this; exact this.eq_of_atom rfl
  have hy' : ρ' y = .int k' b := by have := hρ y; rw [hy] at this; exact this.eq_of_atom rfl
  have g : (eqGuard .shl t x y (.int k a) (.int k' b)).run P w = .ok () w := rfl
  have e1 : (binOp .shl t (.int k a) (.int k' b)).run P w = .ok (.int k (k.wrap (a * 2 ^ n))) w := by
   subst hb
   show (Op.shift .shl k a k' (Int.ofNat n)).run P w = _
   have hm : min n k.bits = n := by omega
   have h0 : ¬ ((n : Int) < 0) := by omega
   simp [Op.shift, Sem.run, hm, h0]
  exact ⟨rfl, rfl, Res.same he (v' := .int k (k.wrap (a * 2 ^ n))) (by simp [execOp, ho, hx', hy', g, e1, Result.andThen, Sem.run]) (.atom rfl)⟩
 ·rename_i k a k' b hx hy
  injection h with h
  injection h with h1 h2
  subst h1 h2
  obtain ⟨hb, hn⟩ := Zab.1 (hob (dP (b = Int.ofNat n ∧ n ≤ k.bits), true) (by simp [St.told]))
  have hx' : ρ' x = .int k a := by have := hρ x; rw [hx] at this; exact this.eq_of_atom rfl
  have hy' : ρ' y = .int k' b := by have := hρ y; rw [hy] at this; exact this.eq_of_atom rfl
  have g : (eqGuard .shr t x y (.int k a) (.int k' b)).run P w = .ok () w := rfl
  have e1 : (binOp .shr t (.int k a) (.int k' b)).run P w = .ok (.int k (a / 2 ^ n)) w := by
   subst hb
   show (Op.shift .shr k a k' (Int.ofNat n)).run P w = _
   have hm : min n k.bits = n := by omega
   have h0 : ¬ ((n : Int) < 0) := by omega
   have hp : (0 : Int) ≤ 2 ^ n := Int.pow_nonneg (by decide)
   simp [Op.shift, Sem.run, hm, h0, Int.fdiv_eq_ediv_of_nonneg _ hp]
  exact ⟨rfl, rfl, Res.same he (v' := .int k (a / 2 ^ n)) (by simp [execOp, ho, hx', hy', g, e1, Result.andThen, Sem.run]) (.atom rfl)⟩
 ·cases h
theorem ZuX {o : Oper} {t : TypeId} {x y : Operand} {yt : TypeId} (ho : o.op = .binOp .add t x y yt) (hρ : ∀ x, VR ι (ρ x) (ρ' x)) (he : Emb P ι s.h.get w) (hob : ∀ p ∈ s'.ob, p.1 = p.2) (h : Zou ρ x y s = some (v, s')) :
  s'.h = s.h ∧ s'.n = s.n ∧ Res P ((execOp ρ' o).run P w) s ι w v s := by
 unfold Zou at h
 split at h
 ·rename_i a b hx hy
  injection h with h
  injection h with h1 h2
  subst h1 h2
  have hs := Zab.1 (hob (dP (((a.size + b.size : Nat) : Int) ≤ IntKind.i64.max), true) (by simp [St.told]))
  have hx' : ρ' x = .string a := by have := hρ x; rw [hx] at this; exact this.eq_of_atom rfl
  have hy' : ρ' y = .string b := by have := hρ y; rw [hy] at this; exact this.eq_of_atom rfl
  have g : (eqGuard .add t x y (.string a) (.string b)).run P w = .ok () w := rfl
  have e1 : (binOp .add t (.string a) (.string b)).run P w = .ok (.string (a ++ b)) w := by
   show (Op.stringOp .add a b).run P w = _
   simp only [Op.stringOp]
   rw [if_neg (by omega)]
   simp [Sem.run]
  exact ⟨rfl, rfl, Res.same he (v' := .string (a ++ b)) (by simp [execOp, ho, hx', hy', g, e1, Result.andThen, Sem.run]) (.atom rfl)⟩
 ·cases h
theorem Zjg (hρ : ∀ x, VR ι (ρ x) (ρ' x)) (a : Array Operand) : VRs ι (a.map ρ) (a.map ρ') := by
 refine ⟨by simp, fun i x y hx hy => ?_⟩
 simp only [Array.getElem?_map] at hx hy
 cases hi : a[i]? with
 | none => rw [hi] at hx; cases hx
 | some z => rw [hi] at hx hy; injection hx with hx; injection hy with hy; subst hx hy; exact hρ z
theorem ZqI {o : Oper} {c : Call} {b : Builtin} (ho : o.op = .call c) (hc : c.callee = .builtin b) (hρ : ∀ x, VR ι (ρ x) (ρ' x)) (he : Emb P ι s.h.get w) (hf : Fresh ι s.n s'.n) (hob : ∀ p ∈ s'.ob, p.1 = p.2) (h : Zii P ρ o c b s = some (v, s')) :
  Res P ((execOp ρ' o).run P w) s ι w v s' := by
 have hs : ∀ cs b, o.op ≠ .select cs b := fun cs b e => by rw [ho] at e; cases e
 obtain ⟨cs, hrun⟩ : ∃ cs, (execOp ρ' o).run P w = (builtin b c.argTypes o.type cs (c.args.map ρ')).run P w := ⟨_, by
  simp [execOp, ho, resolve, hc, invoke, Result.andThen, Sem.run]
  rfl⟩
 unfold Zii at h
 split at h
 ·split at h
  ·rename_i t tx x y ht hx
   obtain ⟨v', w', ι', hr, h1, h2, h3⟩ : ∃ v' w' ι', (Builtin.append_ #[t, tx] o.type #[ρ' x, ρ' y]).run P w = .ok v' w' ∧ Step P ι s.h.get w ι' s'.h.get w' ∧ Dom ι ι' s.n s'.n ∧ VR ι' v v' := by
    split at h
    ·rename_i s1 hw
     obtain ⟨e1, e2, _⟩ := ZV hw
     obtain ⟨s2, h4, e3, e4⟩ := ZtV hob h
     have := Zgd (ty := o.type) (hρ x) (hρ y) (e1 ▸ he) (e2 ▸ e4 ▸ hf) h4
     rw [e3, e4, ← e1, ← e2]
     exact this
    ·rename_i s1 hw
     obtain ⟨e1, e2, _⟩ := ZV hw
     obtain ⟨s2, h4, e3, e4⟩ := ZsQ hob h
     have := Zgd (ty := o.type) (hρ x) (hρ y) (e1 ▸ he) (e2 ▸ e4 ▸ hf) h4
     rw [e3, e4, ← e1, ← e2]
     exact this
    ·rename_i s1 hw
     obtain ⟨e1, e2, _⟩ := ZV hw
     obtain ⟨s2, h4, e3, e4⟩ := ZsR hob h
     have := Zgd (ty := o.type) (hρ x) (hρ y) (e1 ▸ he) (e2 ▸ e4 ▸ hf) h4
     rw [e3, e4, ← e1, ← e2]
     exact this
    ·cases h
    ·rename_i s1 hw
     obtain ⟨e1, e2, _⟩ := ZV hw
     have := Zgd (ty := o.type) (hρ x) (hρ y) (e1 ▸ he) (e2 ▸ hf) h
     rw [← e1, ← e2]
     exact this
   refine ⟨.value v', w', ι', v', ?_, .inl rfl, h1, h2, h3⟩
   have e1 : c.argTypes = #[t, tx] := by rw [← Array.toArray_toList (xs := c.argTypes), ht]
   have e2 : c.args.map ρ' = #[ρ' x, ρ' y] := by rw [← Array.toArray_toList (xs := c.args), hx]; simp
   rw [hrun, e1, e2]
   simp [builtin, hr, Result.andThen, Sem.run]
  ·cases h
 ·split at h
  ·rename_i t x ht hx
   split at h
   ·rename_i e a n k hu hxx
    injection h with h
    injection h with h1 h2
    subst h1 h2
    have e1 : c.argTypes = #[t] := by rw [← Array.toArray_toList (xs := c.argTypes), ht]
    have e2 : c.args.map ρ' = #[ρ' x] := by rw [← Array.toArray_toList (xs := c.args), hx]; simp
    have hv := hxx ▸ hρ x
    have hl : ∃ a' c', ρ' x = .slice a' n c' := by
     generalize ρ' x = x' at hv
     cases hv with
     | atom h => simp [Ev.atom] at h
     | slice => exact ⟨_, _, rfl⟩
     | slice0 => exact ⟨_, _, rfl⟩
     | mslice => exact ⟨_, _, rfl⟩
    obtain ⟨a', c', hl⟩ := hl
    refine Res.same he (v' := goInt n) ?_ (.atom rfl)
    rw [hrun, e1, e2, hl]
    simp [builtin, Builtin.len_, run_underlying hu, Result.andThen, Sem.run]
   ·rename_i kt et b0 hu hxx
    split at h
    ·rename_i es hes
     injection h with h
     injection h with h1 h2
     subst h1 h2
     have e1 : c.argTypes = #[t] := by rw [← Array.toArray_toList (xs := c.argTypes), ht]
     have e2 : c.args.map ρ' = #[ρ' x] := by rw [← Array.toArray_toList (xs := c.args), hx]; simp
     refine Res.same he (v' := goInt es.length) ?_ (.atom rfl)
     rw [hrun, e1, e2]
     simp [builtin, Zr6 (ty := o.type) hu (hxx ▸ hρ x) he hes, Result.andThen, Sem.run]
    ·cases h
   ·exact (Zby hs hρ he h).2
  ·cases h
 ·split at h
  ·rename_i t t2 x k ht hx
   have e1 : c.argTypes = #[t, t2] := by rw [← Array.toArray_toList (xs := c.argTypes), ht]
   have e2 : c.args.map ρ' = #[ρ' x, ρ' k] := by rw [← Array.toArray_toList (xs := c.args), hx]; simp
   obtain ⟨w', q1, q2, q3, rfl⟩ := Zr5 (t2 := t2) (ty := o.type) (hρ x) (hρ k) he h
   refine ⟨.value (.tuple #[]), w', ι, .tuple #[], ?_, .inl rfl, q2, q3 ▸ Dom.refl, VR.of_free rfl⟩
   rw [hrun, e1, e2]
   simp [builtin, q1, Result.andThen, Sem.run]
  ·cases h
 ·split at h
  ·rename_i t x ht hx
   have e1 : c.argTypes = #[t] := by rw [← Array.toArray_toList (xs := c.argTypes), ht]
   have e2 : c.args.map ρ' = #[ρ' x] := by rw [← Array.toArray_toList (xs := c.args), hx]; simp
   obtain ⟨w', q1, q2, q3, rfl⟩ := ZsU (ty := o.type) (hρ x) he h
   refine ⟨.value (.tuple #[]), w', ι, .tuple #[], ?_, .inl rfl, q2, q3 ▸ Dom.refl, VR.of_free rfl⟩
   rw [hrun, e1, e2]
   simp [builtin, q1, Result.andThen, Sem.run]
  ·cases h
 ·exact (Zby hs hρ he h).2
theorem Zpv {o : Oper} {x : Operand} (ho : o.op = .nilCheck x) (hρ : ∀ x, VR ι (ρ x) (ρ' x)) (he : Emb P ι s.h.get w) (h : (match ρ x with
  | .pointer (some a) => some ((.pointer (some a) : Value), s)
  | .func (.func f) a b => some (.func (.func f) a b, s)
  | _ => none) = some (v, s')) : s' = s ∧ Res P ((execOp ρ' o).run P w) s ι w v s' := by
 split at h
 ·rename_i a hx
  injection h with h
  injection h with h1 h2
  subst h1 h2
  have hv := hx ▸ hρ x
  refine ⟨rfl, Res.same he (v' := ρ' x) ?_ hv⟩
  have : ∃ a', ρ' x = .pointer (some a') := by
   generalize ρ' x = x' at hv
   cases hv with
   | atom h => simp [Ev.atom] at h
   | ptr h => exact ⟨_, rfl⟩
   | mptr h => exact ⟨_, rfl⟩
  obtain ⟨a', hx'⟩ := this
  simp [execOp, ho, hx', Sem.run]
 ·rename_i f a b hx
  injection h with h
  injection h with h1 h2
  subst h1 h2
  have hv := hx ▸ hρ x
  refine ⟨rfl, Res.same he (v' := ρ' x) ?_ hv⟩
  have : ∃ a' b', ρ' x = .func (.func f) a' b' := by
   generalize ρ' x = x' at hv
   cases hv with
   | atom h => exact ⟨_, _, rfl⟩
   | func => exact ⟨_, _, rfl⟩
  obtain ⟨a', b', hx'⟩ := this
  simp [execOp, ho, hx', Sem.run]
 ·cases h
theorem Zj1 : ∀ {l : List Value} {ns : List Int}, Zjd l = some ns → l = ns.map (Value.int .u8)
 | [], ns, h => by simp [Zjd] at h; subst h; rfl
 | x :: l, ns, h => by
  unfold Zjd at h
  split at h
  ·cases ‹_ :: _ = []›
  ·rename_i n l' hx
   injection hx with h1 h2
   subst h1 h2
   split at h
   ·rename_i r hr
    injection h with h
    subst h
    rw [Zj1 hr]
    rfl
   ·cases h
  ·cases h
theorem Zpw {o : Oper} {a b : TypeId} {x : Operand} {ns : List Int} (ho : o.op = .convert a b x) (hρ : ∀ x, VR ι (ρ x) (ρ' x)) (he : Emb P ι s.h.get w) (hob : ∀ p ∈ s'.ob, p.1 = p.2) (h : ZgY P ρ a b x ns s = some (v, s')) :
  s'.h = s.h ∧ s'.n = s.n ∧ Res P ((execOp ρ' o).run P w) s ι w v s := by
 unfold ZgY at h
 split at h
 ·rename_i e k o' n c hua hub hx
  split at h
  ·rename_i hue
   injection h with h
   injection h with h1 h2
   subst h1 h2
   have hl := Zab.1 (hob (dP (ZlP s k o' n = some (ns.map (Value.int .u8))), true) (by simp [St.told]))
   obtain ⟨bk, cs, hb, hcl, hll, hcs, hvv⟩ := Zqm he hl
   have hcs' : cs = ns.map (Value.int .u8) := by
    apply List.ext_getElem (by omega)
    intro i h1 h2
    have hq := hvv i (ns.map (Value.int .u8))[i] cs[i] (List.getElem?_eq_getElem h2) (List.getElem?_eq_getElem h1)
    rw [List.getElem_map] at hq ⊢
    exact hq.int_inv
   have hv := hx ▸ hρ x
   have : ∃ a' c', ρ' x = .slice a' n c' ∧ (Conv.bytesToString (.slice a' n c')).run P w = .ok (.string (ns.foldl (fun r n => r.push (UInt8.ofNat n.toNat)) ByteArray.empty)) w := by
    generalize ρ' x = x' at hv
    cases hv with
    | atom h => simp [Ev.atom] at h
    | slice hb2 hn hc hq =>
     rename_i b2 c'
     rw [hb] at hb2; injection hb2 with hb2; subst hb2
     refine ⟨_, _, rfl, ?_⟩
     have := run_loadCells_list (P := P) w ⟨bk.1, o', none⟩ cs hcs
     rw [hcl] at this
     rw [hcs'] at this
     exact run_bytesToString w _ n c' ns this
    | slice0 _h0 =>
     rename_i a'
     have : ns = [] := List.eq_nil_of_length_eq_zero (by simpa using hll)
     subst this
     cases a' with
     | none => exact ⟨none, 0, rfl, rfl⟩
     | some a' => exact ⟨some a', 0, rfl, run_bytesToString w a' 0 0 [] rfl⟩
   obtain ⟨a', c', hx', hrun⟩ := this
   refine ⟨rfl, rfl, Res.same he (v' := .string _) ?_ (.atom rfl)⟩
   simp [execOp, ho, hx', run_convert_bytes_string w a b e a' n c' hua hue hub, hrun, Result.andThen, Sem.run]
  ·cases h
 ·rename_i e id o' z n c hua hub hx
  split at h
  ·rename_i hue
   injection h with h
   injection h with h1 h2
   subst h1 h2
   have hl := Zab.1 (hob (dP (Zgn id o' n = some (ns.map (Cell.k .u8))), true) (by simp [St.told]))
   have hv := hx ▸ hρ x
   have : ∃ a' c', ρ' x = .slice a' n c' ∧ (Conv.bytesToString (.slice a' n c')).run P w = .ok (.string (ns.foldl (fun r n => r.push (UInt8.ofNat n.toNat)) ByteArray.empty)) w := by
    generalize ρ' x = x' at hv
    cases hv with
    | atom h => simp [Ev.atom] at h
    | mslice hb hn hc =>
     rename_i b base c' q
     obtain ⟨cs, hcl, hll, hcs, hvv⟩ := ZlY (q := 0) he hb hl
     have ecell : ZF (ns.map (Cell.k .u8)) = ns.map (Value.int .u8) := by unfold ZF; rw [List.map_map]; rfl
     have hcs' : cs = ns.map (Value.int .u8) := by
      rw [ecell] at hvv
      rw [List.length_map] at hll
      apply List.ext_getElem (by simp; omega)
      intro i h1 h2
      have hq := hvv i (ns.map (Value.int .u8))[i] cs[i] (List.getElem?_eq_getElem h2) (List.getElem?_eq_getElem h1)
      rw [List.getElem_map] at hq ⊢
      exact hq.int_inv
     refine ⟨_, _, rfl, ?_⟩
     have := run_loadCells_list (P := P) w ⟨b, base + o', none⟩ cs hcs
     rw [hcl] at this
     rw [hcs'] at this
     exact run_bytesToString w _ n c' ns this
    | slice0 _h0 =>
     rename_i a'
     have : ns = [] := by
      unfold Zgn at hl
      split at hl
      ·injection hl with hl
       simpa using hl.symm
      ·cases hl
     subst this
     cases a' with
     | none => exact ⟨none, 0, rfl, rfl⟩
     | some a' => exact ⟨some a', 0, rfl, run_bytesToString w a' 0 0 [] rfl⟩
   obtain ⟨a', c', hx', hrun⟩ := this
   refine ⟨rfl, rfl, Res.same he (v' := .string _) ?_ (.atom rfl)⟩
   simp [execOp, ho, hx', run_convert_bytes_string w a b e a' n c' hua hue hub, hrun, Result.andThen, Sem.run]
  ·cases h
 ·cases h
theorem ZjQ {src dst u t : TypeId} {i j : TypeInfo} {w : World} {b : Nat} {C : Array Value} {fr : Nat × Nat} (hs : P.underlying src = some .unsafePointer) (hd : P.underlying dst = some (.pointer u)) (hi : P.info? u = some i) (h0 : 0 < i.size) (hsub : ZvN P t u = true) (hj : P.info? t = some j) (hj0 : 0 < j.size)
  (hB : w.heap[b]? = some (.cells C t fr)) (hC : j.size ≤ C.size) : (convert src dst (.pointer (some ⟨b, 0, none⟩))).run P w = .ok (.pointer (some ⟨b, 0, none⟩)) w := by
 have hsh : w.shape? b = some (t, C.size) := by simp [World.shape?, hB]
 have hc : P.cellsOf t = j.size := by simp [Program.cellsOf, hj]
 have hcu : P.cellsOf u = i.size := by simp [Program.cellsOf, hi]
 have hl : liesAt P P.depth t (C.size / P.cellsOf t) 0 u 1 = true := by
  have hd : P.depth = (2 * (P.types.size + Made.depth) + 1) + 1 := rfl
  rw [hd]
  simp only [liesAt, Bool.or_eq_true]
  left
  rw [hd]
  have h1 : 1 ≤ C.size / j.size := (Nat.le_div_iff_mul_le hj0).2 (by omega)
  have h2 : j.size ≠ 0 := by omega
  have h3 : i.size ≠ 0 := by omega
  unfold ZvN at hsub
  rw [Bool.or_eq_true] at hsub
  rcases hsub with hsub | hsub
  ·obtain rfl := Nat.eq_of_beq_eq_true hsub
   simp [Go.rowAt, hc, sameLayout, h2, h1]
  ·split at hsub
   ·rename_i fs hfs
    rw [Bool.and_eq_true] at hsub
    obtain ⟨hst, hsub⟩ := hsub
    split at hsub
    ·rename_i f hf
     rw [Bool.and_eq_true] at hsub
     have e1 := Nat.eq_of_beq_eq_true hsub.1
     have e2 := Nat.eq_of_beq_eq_true hsub.2
     have hm : f ∈ fs := Array.mem_of_getElem? hf
     have hin : Go.rowAt P (fun x => sameLayout P (2 * (P.types.size + Made.depth) + 1 + 1) x u) (2 * (P.types.size + Made.depth) + 1) u 1 0 1 = true := by
      simp [Go.rowAt, hcu, sameLayout, h3]
     unfold Go.rowAt
     simp only [hc, h2, if_false, Nat.zero_div, Nat.zero_mod, hfs, Bool.or_eq_true, Bool.and_eq_true, decide_eq_true_eq]
     right
     refine ⟨by omega, hst, ?_⟩
     rw [Array.any_eq_true']
     refine ⟨f, hm, ?_⟩
     rw [e1, e2, hcu]
     simp only [Nat.zero_add, Nat.sub_zero, Nat.le_refl, decide_true, Bool.true_and]
     rw [hin]
     simpa using h0
    ·cases hsub
   ·cases hsub
 have hz : i.size ≠ 0 := by omega
 simp [convert, Conv.unsafePointer, Conv.seenAt, viewAt, cellsIn, sizeOf, typeInfo, run_underlying hs, run_underlying hd, hi, hz, hsh, variablesAt, hl, Result.andThen]
theorem ZlG {o : Oper} {a b : TypeId} {x : Operand} (ho : o.op = .convert a b x) (hρ : ∀ x, VR ι (ρ x) (ρ' x)) (he : Emb P ι s.h.get w) (h : ZgP P ρ a b x s = some (v, s')) :
  s' = s ∧ Res P ((execOp ρ' o).run P w) s ι w v s' := by
 unfold ZgP at h
 split at h
 ·rename_i e k o' n c hua hub hx
  split at h
  ·rename_i l hue hl
   split at h
   ·rename_i ns hns
    injection h with h
    injection h with h1 h2
    subst h1 h2
    have hbs := Zj1 hns
    obtain ⟨bk, cs, hb, hcl, hll, hcs, hvv⟩ := Zjz he hl
    have hcs' : cs = ns.map (Value.int .u8) := by
     rw [← hbs]
     apply List.ext_getElem (by omega)
     intro i h1 h2
     have hq := hvv i l[i] cs[i] (List.getElem?_eq_getElem h2) (List.getElem?_eq_getElem h1)
     have hli : l[i] = .int .u8 (ns[i]'(by rw [hbs] at h2; simpa using h2)) := by simp [hbs]
     rw [hli] at hq ⊢
     exact hq.int_inv
    have hv := hx ▸ hρ x
    have : ∃ a' c', ρ' x = .slice a' n c' ∧ (Conv.bytesToString (.slice a' n c')).run P w = .ok (.string (ns.foldl (fun r n => r.push (UInt8.ofNat n.toNat)) ByteArray.empty)) w := by
     generalize ρ' x = x' at hv
     cases hv with
     | atom h => simp [Ev.atom] at h
     | slice hb2 hn hc hq =>
      rename_i b2 c'
      rw [hb] at hb2; injection hb2 with hb2; subst hb2
      refine ⟨_, _, rfl, ?_⟩
      have := run_loadCells_list (P := P) w ⟨bk.1, o', none⟩ cs hcs
      rw [hcl] at this
      rw [hcs'] at this
      exact run_bytesToString w _ n c' ns this
     | slice0 _h0 =>
      rename_i a'
      have : ns = [] := List.eq_nil_of_length_eq_zero (by rw [hbs] at hll; simpa using hll)
      subst this
      cases a' with
      | none => exact ⟨none, 0, rfl, rfl⟩
      | some a' => exact ⟨some a', 0, rfl, run_bytesToString w a' 0 0 [] rfl⟩
    obtain ⟨a', c', hx', hrun⟩ := this
    refine ⟨rfl, Res.same he (v' := .string _) ?_ (.atom rfl)⟩
    simp [execOp, ho, hx', run_convert_bytes_string w a b e a' n c' hua hue hub, hrun, Result.andThen, Sem.run]
   ·cases h
  ·cases h
 ·rename_i t k o' hua hub hx
  split at h
  ·rename_i i u hi hrow
   obtain ⟨hz, h⟩ := (show ∀ {b : Bool} {x : Option (Value × St)} {y : Value × St}, (bif b then none else x) = some y → b = false ∧ x = some y from fun {b x y} h => by cases b <;> simp at h; exact ⟨rfl, h⟩) h
   injection h with h
   injection h with h1 h2
   subst h1 h2
   obtain ⟨bk, C, tt, hbk, hB, hl, hxx⟩ := Zlo he hrow
   obtain ⟨y, hy, hv⟩ := hxx 0 _ rfl
   obtain ⟨b', hb', hp⟩ := (hx ▸ hρ x).ptr_inv
   rw [hbk] at hb'; injection hb' with hb'; subst hb'
   have hc : w.cell? ⟨bk.1, o', none⟩ = some y := by
    rw [Zrt hB]
    simpa using hy
   have hsz : (P.info? t).map (fun i => decide (i.size = 0)) = some false := by
    rw [hi]
    simp only [Option.map_some, Option.some.injEq, decide_eq_false_iff_not]
    intro e
    rw [e] at hz
    simp at hz
   refine ⟨rfl, Res.same he (v' := .pointer (some ⟨bk.1, o', none⟩)) ?_ (.ptr hbk)⟩
   simp [execOp, ho, hp, run_convert_to_unsafe (w := w) hua hub hsz hc, Result.andThen, Sem.run]
  ·cases h
 ·rename_i u k hua hub hx
  split at h
  ·rename_i i c t hi hk
   replace h := Zn h
   obtain ⟨hg, h⟩ := h
   simp only [Bool.and_eq_true] at hg
   have h0 := Nat.le_of_ble_eq_true hg.1
   have hsub := hg.2.1
   have hft := hg.2.2
   unfold ZuM at hft
   split at hft
   case h_2 => cases hft
   rename_i j hj
   rw [Bool.and_eq_true] at hft
   have hj0 := Nat.le_of_ble_eq_true hft.1
   have hc := Nat.le_of_ble_eq_true hft.2
   injection h with h
   injection h with h1 h2
   subst h1 h2
   obtain ⟨bk, C, hbk, hB, hcr, _⟩ := he.objF k c t hk
   obtain ⟨b', hb', hp⟩ := (hx ▸ hρ x).ptr_inv
   rw [hbk] at hb'; injection hb' with hb'; subst hb'
   obtain ⟨fr, hB, _⟩ := hB
   refine ⟨rfl, Res.same he (v' := .pointer (some ⟨bk.1, 0, none⟩)) ?_ (.ptr hbk)⟩
   simp [execOp, ho, hp, ZjQ (w := w) hua hub hi h0 hsub hj hj0 hB (by have := hcr.1; omega), Result.andThen, Sem.run]
  ·cases h
 ·cases h
theorem Zr7 {o : Oper} {a b : TypeId} {x : Operand} {z : ByteArray} {r : Option Za8} (ho : o.op = .convert a b x) (hx : ρ' x = .string z) (he : Emb P ι s.h.get w) (hf : Fresh ι s.n s'.n) (hob : ∀ p ∈ s'.ob, p.1 = p.2) (h : Zju P a b z r s = some (v, s')) :
  Res P ((execOp ρ' o).run P w) s ι w v s' := by
 unfold Zju at h
 split at h
 ·rename_i e hua hub
  split at h
  ·rename_i hue
   replace h := Zn h
   obtain ⟨hg, h⟩ := h
   simp only [Bool.and_eq_true] at hg
   obtain rfl : e = u8T := Nat.eq_of_beq_eq_true hg.1
   have hs1 : ∀ i, P.info? u8T = some i → i.size = 1 := fun i hi => by
    have := hg.2
    unfold sz1 at this
    rw [hi] at this
    exact Nat.eq_of_beq_eq_true this
   have hrun : (execOp ρ' o).run P w = .ok (.value (.slice (some ⟨w.heap.size, 0, none⟩) z.size (grownCap w z.size 0 u8T))) (Lib.bytesWorld w u8T z) := by
    simp [execOp, ho, hx, Lib.run_convert_string_bytes w a b u8T z hua hub hue, Result.andThen, Sem.run]
   have hge := grownCap_ge w z.size 0 u8T
   have hbl : (ZdC z).length = z.size := by unfold ZdC; rw [List.length_map, Array.length_toList]; rfl
   have hcr : CR ι (ZdC z) (Lib.bytesCells w u8T z) := by
    refine ⟨by rw [hbl]; unfold Lib.bytesCells; rw [Array.size_append, Array.size_map]; exact Nat.le_add_right _ _, fun i u y hu hy => ?_⟩
    have hi : i < z.size := by have := (List.getElem?_eq_some_iff.1 hu).1; omega
    have hi2 : i < (z.data.map fun b => Value.int .u8 b.toNat).size := by rw [Array.size_map]; exact hi
    unfold Lib.bytesCells at hy
    rw [Array.getElem?_append_left hi2, Array.getElem?_map] at hy
    unfold ZdC at hu
    rw [List.getElem?_map, Array.getElem?_toList] at hu
    rw [hu] at hy
    injection hy with hy
    subst hy
    cases hz : z.data[i]? with
    | none => rw [hz] at hu; cases hu
    | some q => rw [hz] at hu; injection hu with hu; subst hu; exact .atom rfl
   have hcs : (Lib.bytesCells w u8T z).size = grownCap w z.size 0 u8T := by
    unfold Lib.bytesCells
    rw [Array.size_append, Array.size_map, Array.size_replicate]
    show z.size + _ = _
    omega
   have st : s.n < s'.n → Step P ι s.h.get w (upd ι s.n (some (w.heap.size, grownCap w z.size 0 u8T))) (upd s.h.get s.n (some (.cells (ZdC z) u8T))) (Lib.bytesWorld w u8T z) := fun hn =>
    Step.allocG he (Nat.lt_of_lt_of_le hn hf.1) (hf.2 s.n (Nat.le_refl _) hn) u8T hcr _ (fun i hi => by rw [hs1 i hi, hcs]; omega) (fun b hb => Lib.bytesWorld_at_old w u8T z b hb) ⟨_, Lib.bytesWorld_at_new w u8T z, .inr ⟨Nat.le_refl _, rfl⟩⟩ (Lib.bytesWorld_size w u8T z) (by simp [Lib.bytesWorld, World.freeze, World.alloc, World.drew, -World.alloc_eq, -World.drew_eq]) (by simp [Lib.bytesWorld, World.freeze, World.alloc, World.drew, -World.alloc_eq, -World.drew_eq]) (by simp [Lib.bytesWorld, World.freeze, World.alloc, World.drew, -World.alloc_eq, -World.drew_eq])
   have vr : VR (upd ι s.n (some (w.heap.size, grownCap w z.size 0 u8T))) (.slice (some ⟨s.n, 0, none⟩) z.size z.size) (.slice (some ⟨w.heap.size, 0, none⟩) z.size (grownCap w z.size 0 u8T)) :=
    .slice (b := (w.heap.size, grownCap w z.size 0 u8T)) Zw (Nat.le_refl _) hge (fun _ => .inr (Nat.le_refl _))
   split at h
   ·injection h with h; injection h with h1 h2; subst h1 h2
    refine ⟨_, _, _, _, hrun, .inl rfl, ?_, Dom.one, vr⟩
    show Step P ι s.h.get w _ (s.h.set s.n _).get _
    rw [Tr.get_set]; exact st (Nat.lt_succ_self _)
   ·rename_i l cp c
    injection h with h; injection h with h1 h2; subst h1 h2
    obtain ⟨rfl, rfl⟩ := Zab.1 (hob _ (List.mem_cons_self ..))
    refine ⟨_, _, _, _, hrun, .inl rfl, ?_, Dom.one, vr⟩
    show Step P ι s.h.get w _ (s.h.set s.n _).get _
    rw [Tr.get_set]; exact st (Nat.lt_succ_self _)
   ·cases h
  ·cases h
 ·cases h
theorem ZuY {o : Oper} (hρ : ∀ x, VR ι (ρ x) (ρ' x)) (he : Emb P ι s.h.get w) (hf : Fresh ι s.n s'.n) (hob : ∀ p ∈ s'.ob, p.1 = p.2) (h : ev1 P ρ o s = some (v, s')) :
  Res P ((execOp ρ' o).run P w) s ι w v s' := by
 obtain ⟨dst, op, type, pos, after, guard⟩ := o
 cases op
 case move x =>
  simp only [ev1, Option.some.injEq, Prod.mk.injEq] at h
  obtain ⟨rfl, rfl⟩ := h
  exact Res.same he (v' := ρ' x) (by simp [execOp, Sem.run]) (hρ x)
 case assign x =>
  simp only [ev1, Option.some.injEq, Prod.mk.injEq] at h
  obtain ⟨rfl, rfl⟩ := h
  exact Res.same he (v' := ρ' x) (by simp [execOp, Sem.run]) (hρ x)
 case pick c a b =>
  simp only [ev1] at h
  split at h
  ·rename_i t ht
   have hc := (ht ▸ hρ c).bool_inv
   split at h
   ·injection h with h
    injection h with h1 h2
    subst h1 h2
    exact Res.same he (v' := ρ' a) (by simp [execOp, hc, asBool, Result.andThen, Sem.run]) (hρ a)
   ·injection h with h
    injection h with h1 h2
    subst h1 h2
    exact Res.same he (v' := ρ' b) (by simp [execOp, hc, asBool, Result.andThen, Sem.run]) (hρ b)
  ·cases h
 case alloc t =>
  simp only [ev1] at h
  split at h
  ·rename_i z hz
   injection h with h
   injection h with h1 h2
   subst h1 h2
   exact ZsG rfl he hz hf
  ·cases h
 case box t x =>
  simp only [ev1, Option.some.injEq, Prod.mk.injEq] at h
  obtain ⟨rfl, rfl⟩ := h
  exact ZuO rfl (hρ x) he hf
 case build t ps =>
  simp only [ev1] at h
  obtain ⟨rfl, hr⟩ := ZsL (o := ⟨dst, .build t ps, type, pos, after, guard⟩) rfl hρ he h
  exact hr
 case buildSlice t n ps => exact ZnL (o := ⟨dst, .buildSlice t n ps, type, pos, after, guard⟩) rfl hρ he hf h
 case load t a =>
  simp only [ev1] at h
  split at h
  ·rename_i l s1 hx
   obtain ⟨e1, e2, _⟩ := Zrv hx
   exact Res.heap (ZsJ (o := ⟨dst, .load t a, type, pos, after, guard⟩) (s := s1) rfl (hρ a) (e1 ▸ he) hob h) e1.symm e2.symm
  ·rename_i s1 hx
   obtain ⟨e1, e2, _⟩ := Zrv hx
   split at h
   ·rename_i k o ha
    split at h
    ·rename_i u hu
     injection h with h
     injection h with h1 h2
     subst h1 h2
     exact Res.heap (Zlp (o := ⟨dst, .load t a, type, pos, after, guard⟩) (s := s1) rfl ha (hρ a) (e1 ▸ he) hu) e1.symm e2.symm
    ·cases h
   ·cases h
 case store t a x =>
  simp only [ev1] at h
  split at h
  ·rename_i c s1 hw
   obtain ⟨e1, e2, _⟩ := ZV hw
   obtain ⟨s2, h4, e3, e4⟩ := ZuP hob h
   exact ((Zny (o := ⟨dst, .store t a x, type, pos, after, guard⟩) (s := s1) rfl hρ (e1 ▸ he) h4).heap e1.symm e2.symm).behind e3 e4
  ·cases h
  ·rename_i s1 hw
   obtain ⟨e1, e2, _⟩ := ZV hw
   exact (Zny (o := ⟨dst, .store t a x, type, pos, after, guard⟩) (s := s1) rfl hρ (e1 ▸ he) h).heap e1.symm e2.symm
 case nilCheck x =>
  simp only [ev1] at h
  obtain ⟨rfl, hr⟩ := Zpv (o := ⟨dst, .nilCheck x, type, pos, after, guard⟩) rfl hρ he h
  exact hr
 case fieldAddr t x f => obtain ⟨rfl, hr⟩ := Zox (o := ⟨dst, .fieldAddr t x f, type, pos, after, guard⟩) rfl hρ he h; exact hr
 case field t x f => obtain ⟨rfl, hr⟩ := ZsH (o := ⟨dst, .field t x f, type, pos, after, guard⟩) rfl hρ he h; exact hr
 case index t x ix =>
  simp only [ev1] at h
  split at h
  ·split at h
   ·rename_i c s1 hw
    obtain ⟨e1, e2, _⟩ := ZV hw
    obtain ⟨e3, e4, hq⟩ := Zr0 (o := ⟨dst, .index t x ix, type, pos, after, guard⟩) (s := s1) rfl hρ (e1 ▸ he) hob h
    exact (hq.heap e1.symm e2.symm).behind e3 e4
   ·cases h
   ·rename_i s1 hw
    obtain ⟨e1, e2, _⟩ := ZV hw
    obtain ⟨rfl, hr⟩ := Zby (o := ⟨dst, .index t x ix, type, pos, after, guard⟩) (s := s1) (fun _ _ e => by cases e) hρ (e1 ▸ he) h
    exact hr.heap e1.symm e2.symm
  split at h
  ·rename_i r hr
   injection h with h
   subst h
   obtain ⟨e1, hq⟩ := ZsI (o := ⟨dst, .index t x ix, type, pos, after, guard⟩) rfl hρ he hr
   subst e1
   exact hq
  ·obtain ⟨rfl, hr⟩ := Zby (o := ⟨dst, .index t x ix, type, pos, after, guard⟩) (fun _ _ e => by cases e) hρ he h; exact hr
 case indexAddr t x ix =>
  simp only [ev1] at h
  split at h
  ·rename_i n s1 hx
   obtain ⟨e1, e2, _⟩ := Zru hx
   exact Res.heap (ZnK (o := ⟨dst, .indexAddr t x ix, type, pos, after, guard⟩) (s := s1) rfl hρ (e1 ▸ he) hob h) e1.symm e2.symm
  ·rename_i s1 hx
   obtain ⟨e1, e2, _⟩ := Zru hx
   obtain ⟨rfl, hr⟩ := Zft (o := ⟨dst, .indexAddr t x ix, type, pos, after, guard⟩) (s := s1) rfl hρ (e1 ▸ he) h
   exact Res.heap hr e1.symm e2.symm
 case extract x i =>
  simp only [ev1] at h
  split at h
  ·rename_i vs hx
   split at h
   ·rename_i u hu
    injection h with h
    injection h with h1 h2
    subst h1 h2
    obtain ⟨vs', hx', hs, hc⟩ := (hx ▸ hρ x).tuple_inv
    have hlt : i < vs'.size := by rw [← hs]; exact (Array.getElem?_eq_some_iff.1 hu).1
    exact Res.same he (v' := vs'[i]) (by simp [execOp, Instr.extract, hx', Array.getElem?_eq_getElem hlt, Result.andThen, Sem.run]) (hc i _ _ hu (Array.getElem?_eq_getElem hlt))
   ·cases h
  ·cases h
 case slice t x lo hi mx =>
  simp only [ev1] at h
  split at h
  ·unfold ZtS at h
   split at h
   ·rename_i l m s1 hw
    obtain ⟨e1, e2, _⟩ := ZV hw
    obtain ⟨h4, e3, e4⟩ := ZuQ hob h
    obtain ⟨_, hq⟩ := Zkk (o := ⟨dst, .slice t x lo hi none, type, pos, after, guard⟩) (s := s1) rfl hρ (e1 ▸ he) h4
    exact (hq.heap e1.symm e2.symm).behind e3 e4
   ·rename_i l m m2 cs s1 hw
    obtain ⟨e1, e2, _⟩ := ZV hw
    obtain ⟨e3, e4, hq⟩ := Zr2 (o := ⟨dst, .slice t x lo hi none, type, pos, after, guard⟩) (s := s1) rfl hρ (e1 ▸ he) hob h
    exact (hq.heap e1.symm e2.symm).behind e3 e4
   ·rename_i m c s1 hw
    obtain ⟨e1, e2, _⟩ := ZV hw
    exact (ZuR (o := ⟨dst, .slice t x lo hi none, type, pos, after, guard⟩) (s := s1) rfl hρ (e1 ▸ he) (e2 ▸ hf) hob h).heap e1.symm e2.symm
   ·rename_i M s1 hw
    obtain ⟨e1, e2, _⟩ := ZV hw
    obtain ⟨e3, e4, hq⟩ := Zrz (o := ⟨dst, .slice t x lo hi none, type, pos, after, guard⟩) (s := s1) rfl hρ (e1 ▸ he) hob h
    exact (hq.heap e1.symm e2.symm).behind e3 e4
   ·cases h
   ·rename_i s1 hw
    obtain ⟨e1, e2, _⟩ := ZV hw
    split at h
    ·rename_i r hr
     injection h with h
     subst h
     obtain ⟨e1', hq⟩ := Zkk (o := ⟨dst, .slice t x lo hi none, type, pos, after, guard⟩) (s := s1) rfl hρ (e1 ▸ he) hr
     subst e1'
     exact hq.heap e1.symm e2.symm
    ·split at h
     ·rename_i r hr
      injection h with h
      subst h
      exact (Zry (o := ⟨dst, .slice t x lo hi none, type, pos, after, guard⟩) (s := s1) rfl hρ (e1 ▸ he) hob hr).heap e1.symm e2.symm
     ·obtain ⟨rfl, hr⟩ := Zby (o := ⟨dst, .slice t x lo hi none, type, pos, after, guard⟩) (s := s1) (fun _ _ e => by cases e) hρ (e1 ▸ he) h
      exact hr.heap e1.symm e2.symm
  ·cases h
 case binOp op t x y yt =>
  by_cases hop : op = .rem
  ·subst hop
   simp only [ev1] at h
   split at h
   ·rename_i s1 hw
    obtain ⟨e1, e2, _⟩ := ZV hw
    obtain ⟨e3, e4, hr⟩ := Zuf (o := ⟨dst, .binOp .rem t x y yt, type, pos, after, guard⟩) (s := s1) rfl hρ (e1 ▸ he) hob h
    exact (hr.heap e1.symm e2.symm).behind e3 e4
   ·cases h
   ·rename_i s1 hw
    obtain ⟨e1, e2, _⟩ := ZV hw
    obtain ⟨rfl, hr⟩ := Zil (o := ⟨dst, .binOp .rem t x y yt, type, pos, after, guard⟩) (s := s1) rfl hρ (e1 ▸ he) h
    exact hr.heap e1.symm e2.symm
  ·by_cases hl : op = .shl
   ·subst hl
    simp only [ev1] at h
    split at h
    ·rename_i n s1 hw
     obtain ⟨e1, e2, _⟩ := ZV hw
     obtain ⟨e3, e4, hr⟩ := Zqr (o := ⟨dst, .binOp .shl t x y yt, type, pos, after, guard⟩) (s := s1) rfl hρ (e1 ▸ he) hob h
     exact (hr.heap e1.symm e2.symm).behind e3 e4
    ·cases h
    ·rename_i s1 hw
     obtain ⟨e1, e2, _⟩ := ZV hw
     obtain ⟨rfl, hr⟩ := Zil (o := ⟨dst, .binOp .shl t x y yt, type, pos, after, guard⟩) (s := s1) rfl hρ (e1 ▸ he) h
     exact hr.heap e1.symm e2.symm
   ·by_cases hr : op = .shr
    ·subst hr
     simp only [ev1] at h
     split at h
     ·rename_i n s1 hw
      obtain ⟨e1, e2, _⟩ := ZV hw
      obtain ⟨e3, e4, hr⟩ := Zqr (o := ⟨dst, .binOp .shr t x y yt, type, pos, after, guard⟩) (s := s1) rfl hρ (e1 ▸ he) hob h
      exact (hr.heap e1.symm e2.symm).behind e3 e4
     ·cases h
     ·rename_i s1 hw
      obtain ⟨e1, e2, _⟩ := ZV hw
      obtain ⟨rfl, hr⟩ := Zil (o := ⟨dst, .binOp .shr t x y yt, type, pos, after, guard⟩) (s := s1) rfl hρ (e1 ▸ he) h
      exact hr.heap e1.symm e2.symm
    ·by_cases ha : op = .add
     ·subst ha
      simp only [ev1] at h
      split at h
      ·obtain ⟨e3, e4, hr⟩ := ZuX (o := ⟨dst, .binOp .add t x y yt, type, pos, after, guard⟩) rfl hρ he hob h
       exact hr.behind e3 e4
      ·obtain ⟨rfl, hr⟩ := Zil (o := ⟨dst, .binOp .add t x y yt, type, pos, after, guard⟩) rfl hρ he h
       exact hr
     ·have h : ZhY P ρ ⟨dst, .binOp op t x y yt, type, pos, after, guard⟩ op t x y s = some (v, s') := by cases op <;> first | exact h | exact absurd rfl hop | exact absurd rfl hl | exact absurd rfl hr | exact absurd rfl ha
      obtain ⟨rfl, hr⟩ := Zil (o := ⟨dst, .binOp op t x y yt, type, pos, after, guard⟩) rfl hρ he h
      exact hr
 case makeSlice t l c =>
  simp only [ev1] at h
  split at h
  ·rename_i n cp cs s1 hw
   obtain ⟨e1, e2, _⟩ := ZV hw
   obtain ⟨s2, h4, e3, e4⟩ := ZvT hob h
   exact ((ZjV (o := ⟨dst, .makeSlice t l c, type, pos, after, guard⟩) (s := s1) rfl hρ (e1 ▸ he) (e2 ▸ e4 ▸ hf) h4).heap e1.symm e2.symm).behind e3 e4
  ·cases h
  ·rename_i s1 hw
   obtain ⟨e1, e2, _⟩ := ZV hw
   exact (ZjV (o := ⟨dst, .makeSlice t l c, type, pos, after, guard⟩) (s := s1) rfl hρ (e1 ▸ he) (e2 ▸ hf) h).heap e1.symm e2.symm
 case makeFunc fn a b =>
  simp only [ev1, Option.some.injEq, Prod.mk.injEq] at h
  obtain ⟨rfl, rfl⟩ := h
  have h1 := Zjg hρ a
  have h2 := Zjg hρ b
  exact Res.same he (v' := .func fn (a.map ρ') (b.map ρ')) (by simp [execOp, Instr.makeFunc, Result.andThen, Sem.run]) (.func h1.1 h2.1 h1.2 h2.2)
 case makeMap t r =>
  exact ZqH (o := ⟨dst, .makeMap t r, type, pos, after, guard⟩) rfl hρ he hf h
 case range t x =>
  exact ZsT (o := ⟨dst, .range t x, type, pos, after, guard⟩) rfl hρ he hf h
 case next it q =>
  exact Zuc (o := ⟨dst, .next it q, type, pos, after, guard⟩) rfl hρ he h
 case lookup t x ix ok =>
  simp only [ev1] at h
  split at h
  ·rename_i r s1 hw
   obtain ⟨e1, e2, _⟩ := ZV hw
   obtain ⟨s2, h4, e3, e4⟩ := Zud hob h
   obtain ⟨e5, hr⟩ := Zmd (o := ⟨dst, .lookup t x ix ok, type, pos, after, guard⟩) (s := s1) rfl hρ (e1 ▸ he) h4
   subst e5
   exact (hr.heap e1.symm e2.symm).behind e3 e4
  ·cases h
  ·rename_i s1 hw
   obtain ⟨e1, e2, _⟩ := ZV hw
   obtain ⟨e5, hr⟩ := Zmd (o := ⟨dst, .lookup t x ix ok, type, pos, after, guard⟩) (s := s1) rfl hρ (e1 ▸ he) h
   subst e5
   exact hr.heap e1.symm e2.symm
 case mapUpdate t m k x =>
  simp only [ev1] at h
  split at h
  ·rename_i l s1 hw
   obtain ⟨e1, e2, _⟩ := ZV hw
   obtain ⟨s2, h4, e3, e4⟩ := Zue hob h
   exact ((Zme (o := ⟨dst, .mapUpdate t m k x, type, pos, after, guard⟩) (s := s1) rfl hρ (e1 ▸ he) h4).heap e1.symm e2.symm).behind e3 e4
  ·cases h
  ·rename_i s1 hw
   obtain ⟨e1, e2, _⟩ := ZV hw
   exact (Zme (o := ⟨dst, .mapUpdate t m k x, type, pos, after, guard⟩) (s := s1) rfl hρ (e1 ▸ he) h).heap e1.symm e2.symm
 case makeInterface t x => obtain ⟨rfl, hr⟩ := Zby (o := ⟨dst, .makeInterface t x, type, pos, after, guard⟩) (fun _ _ e => by cases e) hρ he h; exact hr
 case unOp op t x => obtain ⟨rfl, hr⟩ := Zby (o := ⟨dst, .unOp op t x, type, pos, after, guard⟩) (fun _ _ e => by cases e) hρ he h; exact hr
 case convert a b x =>
  simp only [ev1] at h
  split at h
  ·split at h
   ·rename_i ns s1 hw
    obtain ⟨e1, e2, _⟩ := ZV hw
    obtain ⟨e3, e4, hr⟩ := Zpw (o := ⟨dst, .convert a b x, type, pos, after, guard⟩) (s := s1) rfl hρ (e1 ▸ he) hob h
    exact (hr.heap e1.symm e2.symm).behind e3 e4
   ·cases h
   ·rename_i s1 hw
    obtain ⟨e1, e2, _⟩ := ZV hw
    obtain ⟨e3, hr⟩ := ZlG (o := ⟨dst, .convert a b x, type, pos, after, guard⟩) (s := s1) rfl hρ (e1 ▸ he) h
    subst e3
    exact hr.heap e1.symm e2.symm
  ·rename_i z hz
   have hz' : ρ' x = .string z := (hz ▸ hρ x).eq_of_atom rfl
   generalize hw : s.nextW = q at h
   obtain ⟨r, s1⟩ := q
   obtain ⟨e1, e2, _⟩ := ZV hw
   simp only at h
   split at h
   ·rename_i r2 hr
    injection h with h
    subst h
    have hq := Zr7 (o := ⟨dst, .convert a b x, type, pos, after, guard⟩) (s := s1) rfl hz' (e1 ▸ he) (e2 ▸ hf) hob hr
    exact hq.heap e1.symm e2.symm
   ·obtain ⟨e3, hr⟩ := Zby (o := ⟨dst, .convert a b x, type, pos, after, guard⟩) (s := s1) (fun _ _ e => by cases e) hρ (e1 ▸ he) h
    subst e3
    exact hr.heap e1.symm e2.symm
  ·split at h
   ·rename_i r hr
    injection h with h
    subst h
    obtain ⟨e1, hq⟩ := ZlG (o := ⟨dst, .convert a b x, type, pos, after, guard⟩) rfl hρ he hr
    subst e1
    exact hq
   ·obtain ⟨rfl, hr⟩ := Zby (o := ⟨dst, .convert a b x, type, pos, after, guard⟩) (fun _ _ e => by cases e) hρ he h; exact hr
 case call c =>
  simp only [ev1] at h
  split at h
  ·rename_i b hc
   exact ZqI (o := ⟨dst, .call c, type, pos, after, guard⟩) rfl hc hρ he hf hob h
  ·cases h
 all_goals (simp [ev1] at h)
theorem ZwG {o : Oper} {v v1 : Value} {s1 : St} (h : Zrq o v s = (v1, s1)) (hob : ∀ p ∈ s1.ob, p.1 = p.2) : v1 = v ∧ s1.h = s.h ∧ s1.n = s.n := by
 unfold Zrq at h
 split at h
 all_goals first
  | (generalize hq : s.tst _ = q at h; obtain ⟨b, s2⟩ := q; simp only [Prod.mk.injEq] at h; obtain ⟨rfl, rfl⟩ := h; obtain ⟨rfl, e1, e2⟩ := ZlX hq hob; exact ⟨rfl, e1, e2⟩)
  | (generalize hq : s.vst _ = q at h; obtain ⟨b, s2⟩ := q; simp only [Prod.mk.injEq] at h; obtain ⟨rfl, rfl⟩ := h; obtain ⟨rfl, e1, e2⟩ := Zxr hq hob; exact ⟨rfl, e1, e2⟩)
  | (simp only [Prod.mk.injEq] at h; obtain ⟨rfl, rfl⟩ := h; exact ⟨rfl, rfl, rfl⟩)
end
end Ev
end Go.Proofs.YtlbbiflodemagaaDoor
/- The runner against the model: code and calls. -/
namespace Go.Proofs.YtlbbiflodemagaaDoor
open Go.RowKit
namespace Ev

/-! ### Numbers rise, and answers stay -/
theorem Zai {a b : List (Bool × Bool)} (h : a <:+ b) (hb : ∀ p ∈ b, p.1 = p.2) : ∀ p ∈ a, p.1 = p.2 := fun p hp => hb p (h.subset hp)
structure Up (s s' : St) : Prop where
 n : s.n ≤ s'.n
 ob : s.ob <:+ s'.ob
 log : ∃ l, s'.wr = l ++ s.wr ∧ ∀ k, k ∉ l → ¬ (s.n ≤ k ∧ k < s'.n) → s'.h.get k = s.h.get k
theorem Up.refl (s : St) : Up s s := ⟨Nat.le_refl _, List.suffix_refl _, [], rfl, fun _ _ _ => rfl⟩
theorem Up.trans {a b c : St} (h : Up a b) (k : Up b c) : Up a c := by
 obtain ⟨l, h1, h2⟩ := h.log
 obtain ⟨m, k1, k2⟩ := k.log
 refine ⟨Nat.le_trans h.n k.n, h.ob.trans k.ob, m ++ l, by rw [k1, h1, List.append_assoc], fun j hj hn => ?_⟩
 have := h.n
 have := k.n
 rw [k2 j (fun e => hj (List.mem_append_left _ e)) (by omega), h2 j (fun e => hj (List.mem_append_right _ e)) (by omega)]
theorem Zfg {s s1 : St} {t b : Bool} (h : s.tst t = (b, s1)) : Up s s1 := by
 unfold St.tst at h
 split at h <;> (injection h with h1 h2; subst h1 h2)
 ·exact Up.refl _
 ·exact ⟨Nat.le_refl _, List.suffix_refl _, [], rfl, fun _ _ _ => rfl⟩
 ·exact ⟨Nat.le_refl _, List.suffix_cons _ _, [], rfl, fun _ _ _ => rfl⟩
theorem Zxt {s s1 : St} {x y : Int} (h : s.vst x = (y, s1)) : Up s s1 := by
 unfold St.vst at h
 split at h <;> (injection h with h1 h2; subst h1 h2)
 ·exact Up.refl _
 ·exact ⟨Nat.le_refl _, List.suffix_refl _, [], rfl, fun _ _ _ => rfl⟩
 ·exact ⟨Nat.le_refl _, List.suffix_cons _ _, [], rfl, fun _ _ _ => rfl⟩
theorem Zbr {s s1 : St} {k o : Nat} {l : List Value} (h : Zcx s k o l = some s1) : Up s s1 := by
 unfold Zcx at h
 split at h
 ·replace h := Zn h
  obtain ⟨_, h⟩ := h
  injection h with h
  subst h
  refine ⟨Nat.le_refl _, List.suffix_refl _, [k], rfl, fun j hj _ => ?_⟩
  show (s.h.set k _).get j = _
  rw [Tr.get_set, Zm (by simpa using hj)]
 ·cases h
section
variable {P : Program} {ρ : Operand → Value} {s s' : St} {v : Value}
theorem ZaG {o : Oper} (h : ZcM P ρ o s = some (v, s')) : Up s s' := by
 unfold ZcM at h
 replace h := (Zn h).2
 split at h
 ·replace h := (Zn h).2
  injection h with h; injection h with h1 h2; subst h1 h2; exact Up.refl _
 ·cases h
theorem up_add {c : List Value} {t : TypeId} : Up s (s.add c t) := ⟨Nat.le_succ _, List.suffix_refl _, [], rfl, fun j _ hn => by
 show (s.h.set s.n _).get j = _
 rw [Tr.get_set, Zm (fun e => hn ⟨by omega, by show j < s.n + 1; omega⟩)]⟩
theorem up_turn {k : Nat} {c : List Value} {t : TypeId} : Up s (s.turn k c t) := ⟨Nat.le_succ _, List.suffix_refl _, [k], rfl, fun j hj hn => by
 show ((s.h.set k none).set s.n _).get j = _
 rw [Tr.get_set, Zm (fun e => hn ⟨by omega, by show j < s.n + 1; omega⟩), Tr.get_set, Zm (by simpa using hj)]⟩
theorem ZuZ {t tx : TypeId} {x y : Value} (h : Zc5 P s t tx x y = some (v, s')) : Up s s' := by
 unfold Zc5 at h
 try simp only [cond_eq_ite] at h
 repeat' (split at h)
 all_goals first
  | (cases h; done)
  | (injection h with h; injection h with h1 h2; subst h1 h2; first | exact Up.refl _ | exact up_add | exact up_turn | exact Zbr (by assumption))
  | exact ZaG h
theorem ZqJ {t n : Nat} {ps : Array (Nat × Operand)} (h : Zf3 P ρ t n ps s = some (v, s')) : Up s s' := by
 unfold Zf3 at h
 try simp only [cond_eq_ite] at h
 repeat' (split at h)
 all_goals first
  | (cases h; done)
  | (injection h with h; injection h with h1 h2; subst h1 h2; first | exact Up.refl _ | exact up_add | exact up_turn | exact Zbr (by assumption))
  | exact ZaG h
theorem ZvV {t : Nat} {ps : Array (Nat × Operand)} (h : Zkw P ρ t ps s = some (v, s')) : Up s s' := by
 unfold Zkw at h
 try simp only [cond_eq_ite] at h
 repeat' (split at h)
 all_goals first
  | (cases h; done)
  | (injection h with h; injection h with h1 h2; subst h1 h2; first | exact Up.refl _ | exact up_add | exact up_turn | exact Zbr (by assumption))
  | exact ZaG h
theorem ZvW {t : Nat} {a x : Operand} (h : ZhC P ρ t a x s = some (v, s')) : Up s s' := by
 unfold ZhC at h
 try simp only [cond_eq_ite] at h
 repeat' (split at h)
 all_goals first
  | (cases h; done)
  | (injection h with h; injection h with h1 h2; subst h1 h2; first | exact Up.refl _ | exact up_add | exact up_turn | exact Zbr (by assumption))
  | exact ZaG h
theorem Zr8 {t f : Nat} {x : Operand} (h : Zgx P ρ t x f s = some (v, s')) : Up s s' := by
 unfold Zgx at h
 try simp only [cond_eq_ite] at h
 repeat' (split at h)
 all_goals first
  | (cases h; done)
  | (injection h with h; injection h with h1 h2; subst h1 h2; first | exact Up.refl _ | exact up_add | exact up_turn | exact Zbr (by assumption))
  | exact ZaG h
theorem ZvX {t f : Nat} {x : Operand} (h : Zky P ρ t x f s = some (v, s')) : Up s s' := by
 unfold Zky at h
 try simp only [cond_eq_ite] at h
 repeat' (split at h)
 all_goals first
  | (cases h; done)
  | (injection h with h; injection h with h1 h2; subst h1 h2; first | exact Up.refl _ | exact up_add | exact up_turn | exact Zbr (by assumption))
  | exact ZaG h
theorem ZvY {t : Nat} {x ix : Operand} (h : Zkz P ρ t x ix s = some (v, s')) : Up s s' := by
 unfold Zkz at h
 try simp only [cond_eq_ite] at h
 repeat' (split at h)
 all_goals first
  | (cases h; done)
  | (injection h with h; injection h with h1 h2; subst h1 h2; first | exact Up.refl _ | exact up_add | exact up_turn | exact Zbr (by assumption))
  | exact ZaG h
theorem Zmf {t : Nat} {x ix : Operand} (h : Zd1 P ρ t x ix s = some (v, s')) : Up s s' := by
 unfold Zd1 at h
 try simp only [cond_eq_ite] at h
 repeat' (split at h)
 all_goals first
  | (cases h; done)
  | (injection h with h; injection h with h1 h2; subst h1 h2; first | exact Up.refl _ | exact up_add | exact up_turn | exact Zbr (by assumption))
  | exact ZaG h
theorem ZnM {t : Nat} {x : Operand} {lo hi : Option Operand} (h : Zfk P ρ t x lo hi s = some (v, s')) : Up s s' := by
 unfold Zfk at h
 try simp only [cond_eq_ite] at h
 repeat' (split at h)
 all_goals first
  | (cases h; done)
  | (injection h with h; injection h with h1 h2; subst h1 h2; first | exact Up.refl _ | exact up_add | exact up_turn | exact Zbr (by assumption))
  | exact ZaG h
theorem Zr9 {t : Nat} {l c : Operand} (h : Zej P ρ t l c s = some (v, s')) : Up s s' := by
 unfold Zej at h
 try simp only [cond_eq_ite] at h
 repeat' (split at h)
 all_goals first
  | (cases h; done)
  | (injection h with h; injection h with h1 h2; subst h1 h2; first | exact Up.refl _ | exact up_add | exact up_turn | exact Zbr (by assumption))
  | exact ZaG h
theorem Zo5 {a b : TypeId} {x : Operand} (h : ZgP P ρ a b x s = some (v, s')) : Up s s' := by
 unfold ZgP at h
 try simp only [cond_eq_ite] at h
 repeat' (split at h)
 all_goals first
  | (cases h; done)
  | (injection h with h; injection h with h1 h2; subst h1 h2; first | exact Up.refl _ | exact up_add | exact up_turn | exact Zbr (by assumption))
  | exact ZaG h
theorem ZrA {o : Oper} {op : BinOp} {t : TypeId} {x y : Operand} (h : ZhY P ρ o op t x y s = some (v, s')) : Up s s' := by
 unfold ZhY at h
 split at h
 ·injection h with h; injection h with h1 h2; subst h1 h2; exact Up.refl _
 ·injection h with h; injection h with h1 h2; subst h1 h2; exact Up.refl _
 split at h
 ·rename_i r hr
  injection h with h; subst h
  exact ZaG hr
 ·split at h <;> first | (cases h; done) | (injection h with h; injection h with h1 h2; subst h1 h2; exact Up.refl _)
theorem ZQ {s s1 : St} {a : Option Za8} (h : s.nextW = (a, s1)) : Up s s1 := by
 unfold St.nextW at h
 split at h <;> (injection h with h1 h2; subst h1 h2; exact ⟨Nat.le_refl _, List.suffix_refl _, [], rfl, fun _ _ _ => rfl⟩)
theorem Zam (q : Bool) : Up s (s.told q) := ⟨Nat.le_refl _, List.suffix_cons _ _, [], rfl, fun _ _ _ => rfl⟩
theorem up_putK {k : Nat} {c : List Value} {t : TypeId} {q : Bool} : Up s (s.putK k c t q) := ⟨Nat.le_refl _, List.suffix_refl _, [k], rfl, fun j hj _ => by
 show (s.h.set k _).get j = _
 rw [Tr.get_set, Zm (by simpa using hj)]⟩
theorem Zva {t : Nat} {a x : Operand} {c : List Value} (h : Zjm P ρ t a x c s = some (v, s')) : Up s s' := by
 unfold Zjm at h
 try simp only [cond_eq_ite] at h
 repeat' (split at h)
 all_goals first
  | (cases h; done)
  | (injection h with h; injection h with h1 h2; subst h1 h2; exact up_putK.trans (Zam _))
theorem ZwH {x y : Operand} (h : ZlS ρ x y s = some (v, s')) : Up s s' := by
 unfold ZlS at h
 split at h
 ·injection h with h; injection h with h1 h2; subst h1 h2; exact Zam _
 ·cases h
theorem Zxu {op : BinOp} {x y : Operand} {n : Nat} (h : ZmJ ρ op x y n s = some (v, s')) : Up s s' := by
 unfold ZmJ at h
 split at h
 ·injection h with h; injection h with h1 h2; subst h1 h2; exact Zam _
 ·injection h with h; injection h with h1 h2; subst h1 h2; exact Zam _
 ·cases h
theorem Zvb {x y : Operand} (h : Zou ρ x y s = some (v, s')) : Up s s' := by
 unfold Zou at h
 split at h
 ·injection h with h; injection h with h1 h2; subst h1 h2; exact Zam _
 ·cases h
theorem Zvc {t : Nat} {x : Operand} {lo hi : Option Operand} {l m : Nat} (h : Zjp P ρ t x lo hi l m s = some (v, s')) : Up s s' := by
 unfold Zjp at h
 try simp only [cond_eq_ite] at h
 repeat' (split at h)
 all_goals first
  | (cases h; done)
  | (injection h with h; injection h with h1 h2; subst h1 h2; exact ((Zam _).trans (Zam _)).trans (Zam _))
theorem Zvd {t : Nat} {x : Operand} {lo hi : Option Operand} {l m m2 : Nat} {cs : List Cell} (h : Zjq P ρ t x lo hi l m m2 cs s = some (v, s')) : Up s s' := by
 unfold Zjq at h
 repeat' (split at h)
 all_goals first
  | (cases h; done)
  | (injection h with h; injection h with h1 h2; subst h1 h2; exact ((Zam _).trans (Zam _)).trans (Zam _))
theorem ZsW {a b : TypeId} {x : Operand} {ns : List Int} (h : ZgY P ρ a b x ns s = some (v, s')) : Up s s' := by
 unfold ZgY at h
 repeat' (split at h)
 all_goals first
  | (cases h; done)
  | (injection h with h; injection h with h1 h2; subst h1 h2; exact Zam _)
theorem ZwI {t : Nat} {x : Operand} {lo hi : Option Operand} {m : Nat} {c : List Value} (h : ZlQ P ρ t x lo hi m c s = some (v, s')) : Up s s' := by
 unfold ZlQ at h
 try simp only [cond_eq_ite] at h
 repeat' (split at h)
 all_goals first
  | (cases h; done)
  | (injection h with h; injection h with h1 h2; subst h1 h2; exact ((up_turn.trans (Zam _)).trans (Zam _)).trans (Zam _))
theorem ZvZ {t : Nat} {l c : Operand} {n cp : Nat} {cs : List Value} (h : Zk1 P ρ t l c n cp cs s = some (v, s')) : Up s s' := by
 unfold Zk1 at h
 try simp only [cond_eq_ite] at h
 repeat' (split at h)
 all_goals first
  | (cases h; done)
  | (injection h with h; injection h with h1 h2; subst h1 h2; exact ((up_add.trans (Zam _)).trans (Zam _)).trans (Zam _))
theorem Zug {t tx : TypeId} {x y : Value} {m : Nat} {l c : List Value} (h : Zkx P s t tx x y m l c = some (v, s')) : Up s s' := by
 unfold Zkx at h
 try simp only [cond_eq_ite] at h
 repeat' (split at h)
 all_goals first
  | (cases h; done)
  | (injection h with h; injection h with h1 h2; subst h1 h2; first | exact up_add.trans (Zam _) | exact up_turn.trans (Zam _))
theorem ZsX {t tx : TypeId} {x y : Value} {m : Nat} {l c : List Value} (h : Zjn P s t tx x y m l c = some (v, s')) : Up s s' := by
 unfold Zjn at h
 try simp only [cond_eq_ite] at h
 repeat' (split at h)
 all_goals first
  | (cases h; done)
  | (injection h with h; injection h with h1 h2; subst h1 h2; exact up_putK.trans (Zam _))
theorem ZsY {t tx : TypeId} {x y : Value} (h : Zjo P s t tx x y = some (v, s')) : Up s s' := by
 unfold Zjo at h
 try simp only [cond_eq_ite] at h
 repeat' (split at h)
 all_goals first
  | (cases h; done)
  | (injection h with h; injection h with h1 h2; subst h1 h2; exact Zam _)
theorem Zuh {kk : IntKind} {e : Nat} {args : Array Value} {z : Int} {c : List Value} (h : Zie kk e args z c s = some (v, s')) : Up s s' := by
 unfold Zie at h
 repeat' (split at h)
 all_goals first
  | (cases h; done)
  | (injection h with h; injection h with h1 h2; subst h1 h2; first | exact Zam _ | exact up_putK.trans (Zam _) | exact ((Zam _).trans (Zfg (by assumption))) | exact (((Zam _).trans (Zfg (by assumption))).trans up_putK).trans (Zam _))
theorem Ztt {O : Obj} : Up s (s.addM O) := ⟨Nat.le_succ _, List.suffix_refl _, [], rfl, fun j _ hn => by
 show (s.h.set s.n _).get j = _
 rw [Tr.get_set, Zm (by intro e; subst e; exact hn ⟨Nat.le_refl _, Nat.lt_succ_self _⟩)]⟩
theorem up_putM {k : Nat} {O : Obj} : Up s (s.putM k O) := ⟨Nat.le_refl _, List.suffix_refl _, [k], rfl, fun j hj _ => by
 show (s.h.set k _).get j = _
 rw [Tr.get_set, Zm (by intro e; subst e; exact hj (List.mem_singleton.2 rfl))]⟩
theorem Zwa {t : TypeId} {x : Value} (h : Zk3 P s t x = some (v, s')) : Up s s' := by
 unfold Zk3 at h
 repeat' (split at h)
 all_goals first
  | (cases h; done)
  | (injection h with h; injection h with h1 h2; subst h1 h2; first | exact Up.refl _ | exact up_putM)
theorem Zve {t : TypeId} {x k : Value} (h : Zjw P s t x k = some (v, s')) : Up s s' := by
 unfold Zjw at h
 repeat' (split at h)
 all_goals first
  | (cases h; done)
  | skip
 all_goals (replace h := (Zn h).2)
 all_goals first
  | (cases h; done)
  | (injection h with h; injection h with h1 h2; subst h1 h2; exact up_putM)
theorem Zwb {t : TypeId} {x : Operand} (h : Zk2 P ρ t x s = some (v, s')) : Up s s' := by
 unfold Zk2 at h
 repeat' (split at h)
 all_goals first
  | (cases h; done)
  | (injection h with h; injection h with h1 h2; subst h1 h2; exact Ztt)
theorem ZwJ {it : Operand} {q : Bool} (h : ZlV ρ it q s = some (v, s')) : Up s s' := by
 unfold ZlV at h
 repeat' (split at h)
 all_goals first
  | (cases h; done)
  | (injection h with h; injection h with h1 h2; subst h1 h2; first | exact up_putM | exact Up.refl _)
theorem Zui {t : TypeId} {r : Option Operand} (h : Zih P ρ t r s = some (v, s')) : Up s s' := by
 unfold Zih at h
 repeat' (split at h)
 all_goals first
  | (cases h; done)
  | (injection h with h; injection h with h1 h2; subst h1 h2; exact Ztt)
theorem Zvf {t : TypeId} {x ix : Operand} {ok : Bool} (h : ZeM P ρ t x ix ok s = some (v, s')) : Up s s' := by
 unfold ZeM at h
 repeat' (split at h)
 all_goals first
  | (cases h; done)
  | skip
 all_goals (replace h := (Zn h).2)
 all_goals first
  | (cases h; done)
  | (replace h := (Zn h).2; injection h with h; injection h with h1 h2; subst h1 h2; exact Up.refl _)
theorem Zuj {t : TypeId} {x ix : Operand} {ok : Bool} {r : Option Value} (h : Zif P ρ t x ix ok r s = some (v, s')) : Up s s' := by
 unfold Zif at h
 repeat' (split at h)
 all_goals first
  | (cases h; done)
  | skip
 all_goals (replace h := (Zn h).2; injection h with h; injection h with h1 h2; subst h1 h2; exact Zam _)
theorem Zvg {t : TypeId} {m k x : Operand} (h : ZeN P ρ t m k x s = some (v, s')) : Up s s' := by
 unfold ZeN at h
 repeat' (split at h)
 all_goals first
  | (cases h; done)
  | skip
 all_goals (replace h := (Zn h).2)
 all_goals first
  | (cases h; done)
  | (injection h with h; injection h with h1 h2; subst h1 h2; exact up_putM)
theorem Zuk {t : TypeId} {m k x : Operand} {l : List MapEntry} (h : Zig P ρ t m k x l s = some (v, s')) : Up s s' := by
 unfold Zig at h
 repeat' (split at h)
 all_goals first
  | (cases h; done)
  | skip
 all_goals (replace h := (Zn h).2; injection h with h; injection h with h1 h2; subst h1 h2; exact up_putM.trans (Zam _))
theorem Zul {o : Oper} {c : Call} {b : Builtin} (h : Zii P ρ o c b s = some (v, s')) : Up s s' := by
 unfold Zii at h
 split at h
 ·split at h
  ·split at h
   ·exact (ZQ (by assumption)).trans (Zug h)
   ·exact (ZQ (by assumption)).trans (ZsX h)
   ·exact (ZQ (by assumption)).trans (ZsY h)
   ·cases h
   ·exact (ZQ (by assumption)).trans (ZuZ h)
  ·cases h
 ·split at h
  ·split at h
   ·injection h with h; injection h with h1 h2; subst h1 h2; exact Up.refl _
   ·split at h
    ·injection h with h; injection h with h1 h2; subst h1 h2; exact Up.refl _
    ·cases h
   ·exact ZaG h
  ·cases h
 ·split at h
  ·exact Zve h
  ·cases h
 ·split at h
  ·exact Zwa h
  ·cases h
 ·exact ZaG h
theorem ZrB {s s1 : St} {a : Option Nat} (h : s.nextX = (a, s1)) : Up s s1 := by
 unfold St.nextX at h
 split at h <;> (injection h with h1 h2; subst h1 h2)
 ·exact Up.refl _
 ·exact ⟨Nat.le_refl _, List.suffix_refl _, [], rfl, fun _ _ _ => rfl⟩
theorem ZrC {s s1 : St} {a : Option (List Cell)} (h : s.nextL = (a, s1)) : Up s s1 := by
 unfold St.nextL at h
 split at h <;> (injection h with h1 h2; subst h1 h2)
 ·exact Up.refl _
 ·exact ⟨Nat.le_refl _, List.suffix_refl _, [], rfl, fun _ _ _ => rfl⟩
theorem up_told {s : St} {q : Bool} : Up s (s.told q) := ⟨Nat.le_refl _, List.suffix_cons _ _, [], rfl, fun _ _ _ => rfl⟩
theorem ZqK {t : Nat} {x ix : Operand} {i : Nat} (h : Zf4 P ρ t x ix i s = some (v, s')) : Up s s' := by
 unfold Zf4 at h
 repeat' (split at h)
 all_goals first
  | (cases h; done)
  | (injection h with h; injection h with h1 h2; subst h1 h2; exact up_told.trans up_told)
theorem Zwc {t : Nat} {a : Operand} {l : List Cell} (h : Zk0 P ρ t a l s = some (v, s')) : Up s s' := by
 unfold Zk0 at h
 repeat' (split at h)
 all_goals first
  | (cases h; done)
  | (injection h with h; injection h with h1 h2; subst h1 h2; exact up_told)
theorem Zvh {t : Nat} {x : Operand} {lo hi : Option Operand} {M : List Int} (h : Zjs P ρ t x lo hi M s = some (v, s')) : Up s s' := by
 unfold Zjs at h
 split at h
 ·split at h
  ·injection h with h; injection h with h1 h2; subst h1 h2; exact up_told
  ·cases h
 ·cases h
theorem Zvi {t : Nat} {x ix : Operand} {c : List Int} (h : Zjt P ρ t x ix c s = some (v, s')) : Up s s' := by
 unfold Zjt at h
 split at h
 ·injection h with h; injection h with h1 h2; subst h1 h2; exact up_told
 ·cases h
theorem Zmg {t : Nat} {x : Operand} {lo hi : Option Operand} (h : Zjr P ρ t x lo hi s = some (v, s')) : Up s s' := by
 unfold Zjr at h
 split at h
 ·split at h
  ·replace h := (Zn h).2
   split at h
   ·injection h with h; injection h with h1 h2; subst h1 h2; exact Zfg (by assumption)
   ·cases h
  ·cases h
 ·cases h
theorem Ztu {o : Oper} {t : Nat} {x : Operand} {lo hi : Option Operand} (h : ZtS P ρ o t x lo hi s = some (v, s')) : Up s s' := by
 unfold ZtS at h
 split at h
 ·exact (ZQ (by assumption)).trans (Zvc h)
 ·exact (ZQ (by assumption)).trans (Zvd h)
 ·exact (ZQ (by assumption)).trans (ZwI h)
 ·exact (ZQ (by assumption)).trans (Zvh h)
 ·cases h
 ·split at h
  ·injection h with h; subst h; exact (ZQ (by assumption)).trans (ZnM (by assumption))
  ·split at h
   ·injection h with h; subst h; exact (ZQ (by assumption)).trans (Zmg (by assumption))
   ·exact (ZQ (by assumption)).trans (ZaG h)
theorem Zvj {a b : TypeId} {z : ByteArray} {r : Option Za8} (h : Zju P a b z r s = some (v, s')) : Up s s' := by
 unfold Zju at h
 repeat' (split at h)
 all_goals first
  | (cases h; done)
  | skip
 all_goals (replace h := (Zn h).2)
 all_goals (repeat' (split at h))
 all_goals first
  | (cases h; done)
  | (injection h with h; injection h with h1 h2; subst h1 h2; first | exact up_add | exact up_add.trans (Zam _))
theorem Zxv {o : Oper} (h : ev1 P ρ o s = some (v, s')) : Up s s' := by
 unfold ev1 at h
 split at h
 all_goals first
  | exact Ztu h | exact ZqJ h | exact ZvV h | exact Zr8 h | exact ZvX h | exact Zmf h | exact ZrA h | exact Zvb h | exact ZaG h
  | (injection h with h; injection h with h1 h2; subst h1 h2; first | exact Up.refl _ | exact up_add)
  | (cases h; done)
  | skip
 ·split at h
  ·split at h <;> (injection h with h; injection h with h1 h2; subst h1 h2; exact Up.refl _)
  ·cases h
 all_goals (repeat' (split at h))
 all_goals first
  | (cases h; done)
  | exact (ZQ (by assumption)).trans (Zva h)
  | exact (ZQ (by assumption)).trans (ZvW h)
  | exact (ZQ (by assumption)).trans (ZwH h)
  | exact (ZQ (by assumption)).trans (Zxu h)
  | exact (ZQ (by assumption)).trans (ZrA h)
  | exact Zvb h
  | exact ZrA h
  | exact Zui h
  | exact Zwb h
  | exact ZwJ h
  | exact (ZQ (by assumption)).trans (Zuj h)
  | exact (ZQ (by assumption)).trans (Zvf h)
  | exact (ZQ (by assumption)).trans (Zuk h)
  | exact (ZQ (by assumption)).trans (Zvg h)
  | exact Ztu h
  | exact (ZQ (by assumption)).trans (ZvZ h)
  | exact (ZQ (by assumption)).trans (ZsW h)
  | exact (ZQ (by assumption)).trans (Zo5 h)
  | exact (ZQ (by assumption)).trans (Zr9 h)
  | exact (ZQ (by assumption)).trans (Zvi h)
  | exact (ZQ (by assumption)).trans (ZaG h)
  | (injection h with h; subst h; first | exact (ZQ (by assumption)).trans (ZnM (by assumption)) | exact (ZQ (by assumption)).trans (Zmg (by assumption)))
  | exact (ZrC (by assumption)).trans (Zwc h)
  | exact (ZrB (by assumption)).trans (ZqK h)
  | exact (ZrB (by assumption)).trans (Zmf h)
  | (injection h with h; injection h with h1 h2; subst h1 h2; exact ZrC (by assumption))
  | exact Zul h
  | exact ZaG h
  | (injection h with h; injection h with h1 h2; subst h1 h2; first | exact Up.refl _ | exact up_add)
  | (injection h with h; subst h; exact (ZQ (by assumption)).trans (Zvj (by assumption)))
  | (injection h with h; subst h; first | exact ZvY (by assumption) | exact ZnM (by assumption) | exact Zmg (by assumption) | exact Zo5 (by assumption))
theorem ZwK {n : Nat} {args : Array Value} (h : ZlT n args s = some (v, s')) : Up s s' := by
 unfold ZlT at h
 split at h
 ·injection h with h; injection h with h1 h2; subst h1 h2; exact Up.refl _
 ·injection h with h; injection h with h1 h2; subst h1 h2; exact Up.refl _
 ·cases h
theorem Zvk {kk : IntKind} {e : Nat} {args : Array Value} (h : ZdD kk e args s = some (v, s')) : Up s s' := by
 unfold ZdD at h
 repeat' (split at h)
 all_goals first
  | (cases h; done)
  | (injection h with h; injection h with h1 h2; subst h1 h2; first | exact Up.refl _ | exact Zbr (by assumption) | exact Zfg (by assumption) | exact (Zfg (by assumption)).trans (Zbr (by assumption)))
theorem Ztv {o : Oper} {v1 : Value} {s1 : St} (h : Zrq o v s = (v1, s1)) : Up s s1 := by
 unfold Zrq at h
 split at h
 all_goals first
  | (generalize hq : s.tst _ = q at h; obtain ⟨b, s2⟩ := q; simp only [Prod.mk.injEq] at h; obtain ⟨rfl, rfl⟩ := h; exact Zfg hq)
  | (generalize hq : s.vst _ = q at h; obtain ⟨b, s2⟩ := q; simp only [Prod.mk.injEq] at h; obtain ⟨rfl, rfl⟩ := h; exact Zxt hq)
  | (simp only [Prod.mk.injEq] at h; obtain ⟨rfl, rfl⟩ := h; exact Up.refl _)
end
end Ev
end Go.Proofs.YtlbbiflodemagaaDoor
/- What the caller's rows are, all of them; the program's tables. -/
namespace Go.Proofs.YtlbbiflodemagaaDoor
open Go.RowKit
namespace Ev
mutual
inductive Dec (w : World) : Nat → Nat → Nat → Prop
 | mk {b base id : Nat} {c : List Cell} {C : Array Value} {t : TypeId} {fr : Nat × Nat} (h1 : decode id = some c) (h2 : w.heap[b]? = some (.cells C t fr)) (h3 : 0 < c.length → base + c.length ≤ C.size) (h4 : ∀ (i : Nat) (x : Cell) (y : Value), c[i]? = some x → C[base + i]? = some y → DecC w x y) : Dec w b base id
inductive DecC (w : World) : Cell → Value → Prop
 | i {n : Int} : DecC w (.i n) (.int .i64 n)
 | k {q : IntKind} {n : Int} : DecC w (.k q n) (.int q n)
 | b {q : Bool} : DecC w (.b q) (.bool q)
 | s {x : ByteArray} : DecC w (.s x) (.string x)
 | m0 {id o : Nat} {a : Option Addr} : DecC w (.m id o 0 0) (.slice a 0 0)
 | m {b base id o n c c' : Nat} (h : Dec w b base id) (hn : n ≤ c) (hc : c ≤ c') : DecC w (.m id o n c) (.slice (some ⟨b, base + o, none⟩) n c')
end
noncomputable def ιMk (w : World) : Ren := fun k => @dite _ (∃ b base id, k = Zav b base id ∧ Dec w b base id) (Classical.propDecidable _) (fun h => some (h.choose, 0)) (fun _ => none)
theorem ιMk_of {w : World} {b base id : Nat} (h : Dec w b base id) : ιMk w (Zav b base id) = some (b, 0) := by
 have hex : ∃ b' base' id', Zav b base id = Zav b' base' id' ∧ Dec w b' base' id' := ⟨b, base, id, rfl, h⟩
 unfold ιMk
 rw [dif_pos hex]
 obtain ⟨base', id', h1, _⟩ := hex.choose_spec
 rw [← (Zrl h1).1]
theorem ιMk_inv {w : World} {k : Nat} {q : Nat × Nat} (h : ιMk w k = some q) : ∃ b base id, k = Zav b base id ∧ q = (b, 0) ∧ Dec w b base id := by
 unfold ιMk at h
 by_cases hex : ∃ b' base' id', k = Zav b' base' id' ∧ Dec w b' base' id'
 ·rw [dif_pos hex] at h
  injection h with h
  obtain ⟨base', id', h1, h2⟩ := hex.choose_spec
  exact ⟨_, base', id', h1, h.symm, h2⟩
 ·rw [dif_neg hex] at h; cases h
theorem DecC.vr {w : World} {x : Cell} {y : Value} (h : DecC w x y) : VR (ιMk w) (Zdu x) y := by
 cases h with
 | i => exact .atom rfl
 | k => exact .atom rfl
 | b => exact .atom rfl
 | s => exact .atom rfl
 | m0 => exact .slice0 fun _ => rfl
 | m h hn hc => exact .mslice (ιMk_of h) hn hc
def TabW (w : World) : Prop := ∀ x ∈ tabs, ∃ C t fr, w.heap[x.1]? = some (.cells C t fr) ∧ ZvO x.2 C
theorem ZwL : Z4 (fun x : Nat × List Cell => Z4 atom (ZF x.2)) tabs = true := by rfl
theorem Zwd {w : World} {x : Cell} (h : atom (Zdu x) = true) : DecC w x (Zdu x) := by
 cases x with
 | i n => exact .i
 | b q => exact .b
 | k q n => exact .k
 | s x => exact .s
 | any => exact (Bool.false_ne_true h).elim
 | m id o n c => exact (Bool.false_ne_true h).elim
theorem TabW.dec {w : World} (h : TabW w) : ∀ x ∈ tabs, Dec w x.1 0 (code x.2) := fun x hx => by
 obtain ⟨C, t, fr, h1, hC⟩ := h x hx
 obtain ⟨g, l⟩ := x
 cases l with
 | nil => exact .mk (Zki []) h1 (fun h => by simp at h) fun i z y hz hy => by simp at hz
 | cons z0 l =>
 obtain rfl : C = _ := hC
 generalize hx2 : (g, z0 :: l) = x at *
 obtain rfl : g = x.1 := by rw [← hx2]
 have e2 : z0 :: l = x.2 := by rw [← hx2]
 have ha := Zat ZwL x hx
 have hl : (ZF x.2).length = x.2.length := by unfold ZF; rw [List.length_map]
 refine .mk (Zki x.2) h1 (fun _ => by simp [hl]) fun i z y hz hy => ?_
 have hv : (ZF x.2)[i]? = some (Zdu z) := by unfold ZF; rw [List.getElem?_map, hz]; rfl
 rw [Nat.zero_add, List.getElem?_toArray, hv] at hy
 injection hy with hy
 subst hy
 exact Zwd (Zat ha _ (List.mem_of_getElem? hv))
theorem Emb.tabw {P : Program} {ι : Ren} {h : AH} {w : World} (e : Emb P ι h w) : TabW w := fun x hx => by
 obtain ⟨q, hq⟩ := e.tb x hx
 obtain ⟨_, ⟨⟨c, C, t, fr, h1, h2, h3, h4, h5⟩, _⟩, _⟩ := e.mks _ _ _ _ hq
 exact ⟨C, t, fr, h2, h5 x hx rfl⟩
theorem ZwM (P : Program) {w : World} (ht : TabW w) : Emb P (ιMk w) (fun _ => none) w := by
 refine ⟨fun k c t q hk => (by cases hk), fun k O hk => (by cases hk), fun k k' b1 b2 h1 => (by cases h1), fun k b1 hk => ?_, fun b base id q hq => ?_, fun x hx => ⟨_, ιMk_of (ht.dec x hx)⟩⟩
 ·obtain ⟨b, base, id, rfl, rfl, h⟩ := ιMk_inv hk
  cases h with
  | mk _ h2 _ _ => exact (Array.getElem?_eq_some_iff.1 h2).1
 ·obtain ⟨b', base', id', h1, rfl, h⟩ := ιMk_inv hq
  obtain ⟨rfl, rfl, rfl⟩ := Zrl h1
  cases h with
  | mk h1 h2 h3 h4 =>
   rename_i c C t fr
   refine ⟨rfl, ⟨⟨c, C, t, fr, h1, h2, h3, fun i x y hx hy => ?_, fun x hx hb => ?_⟩, fun o c' hc => ιMk_of ?_⟩, fun k d hk => (by cases hk)⟩
   ·unfold ZF at hx
    rw [List.getElem?_map] at hx
    cases hb : c[i]? with
    | none => rw [hb] at hx; cases hx
    | some z =>
     rw [hb] at hx
     injection hx with hx
     subst hx
     exact (h4 i z y hb hy).vr
   ·obtain ⟨C', t', fr', h6, h7⟩ := ht x hx
    rw [hb, h2] at h6
    injection h6 with h6
    injection h6 with h6
    rw [h6]; exact h7
   ·unfold Zgn at hc
    rw [h1] at hc
    obtain ⟨e, hl⟩ := ZdY hc
    have hl' : c'.length ≤ c.length - o := by simpa using hl
    refine .mk (Zki c') h2 (fun h0 => by have := h3 (by omega); omega) fun i x y hx hy => ?_
    have hi : i < c'.length := (List.getElem?_eq_some_iff.1 hx).1
    refine h4 (o + i) x y ?_ (by rw [← Nat.add_assoc]; exact hy)
    rw [e, List.getElem?_take_of_lt hi, List.getElem?_drop] at hx
    exact hx
end Ev
end Go.Proofs.YtlbbiflodemagaaDoor
/- The runner against the model: code and calls. -/
namespace Go.Proofs.YtlbbiflodemagaaDoor
open Go.RowKit
namespace Ev

def ZiT (P : Program) (ι : Ren) (s : St) (w : World) (v : Value) (s' : St) (e : Ending) (w' : World) : Prop :=
  ∃ v' ι', e = .returned v' ∧ Step P ι s.h.get w ι' s'.h.get w' ∧ Dom ι ι' s.n s'.n ∧ VR ι' v v'
def Goes (P : Program) (f : FuncId) (args : Array Value) (w : World) (R : Ending → World → Prop) : Prop :=
  ((∃ (fn : Func) (c : Code), P.funcs[f]? = some fn ∧ fn.body = some c) ∧ Calls P f args w R) ∨ ∃ v w', (callFunc f args).run P w = .ok (.value v) w' ∧ R (.returned v) w'
structure ZeT (P : Program) (f : FuncId) (g : Array Value → St → Out) : Prop where
  up : ∀ args s v s', g args s = some (v, s') → Up s s'
  does : ∀ args s v s', g args s = some (v, s') → (∀ p ∈ s'.ob, p.1 = p.2) → ∀ ι w args', VRs ι args args' → Emb P ι s.h.get w → Fresh ι s.n s'.n → Goes P f args' w (ZiT P ι s w v s')
def Ze0 (v : Value) : List PanicEntry := [{ v := v, recovered := false }]
def ZB (P : Program) (f : FuncId) (args : Array Value) (pre : List (Nat × AObj)) (v : Value) (post : List (Nat × Option AObj)) (n dn : Nat) : Prop :=
  ∀ ι w args', VRs ι args args' → Emb P ι (fun k => Za2 k pre) w → Fresh ι n (n + dn) → Calls P f args' w fun e w' => (∃ v' ι', e = .returned v' ∧ Step P ι (fun k => Za2 k pre) w ι' (behind pre post) w' ∧ Dom ι ι' n (n + dn) ∧ VR ι' v v') ∨ (Zcs v = true ∧ ∃ ι', e = .panicked (Ze0 v) ∧ Step P ι (fun k => Za2 k pre) w ι' (behind pre post) w' ∧ Dom ι ι' n (n + dn))
structure Fit (P : Program) (ext : FuncId → Option Ext) : Prop where
  mixed : P.follows .mixedOrders = true
  go : ∀ (f : Nat) (fn : Func), P.funcs[f]? = some fn → (fn.name == "runtime.NumGoroutine") = false
  fn : ∀ (f : Nat) (g : List Value → Option Value), ext f = some (.fn g) → (∃ (fn : Func) (c : Code), P.funcs[f]? = some fn ∧ fn.body = some c) ∧ ∀ (args : Array Value) (v : Value), Z4 Zbv args.toList = true → g args.toList = some v → ∀ w, TabW w → Calls P f args w fun e w' => e = .returned v ∧ Below w.heap.size w w'
  hp : ∀ (f : Nat) (g : Array Value → St → Out), ext f = some (.hp g) → ZeT P f g
  tc : ∀ (f : Nat) (S : Array Value → List (Nat × AObj) → Value → List (Nat × Option AObj) → Nat → Nat → Prop), ext f = some (.tc S) → (∃ (fn : Func) (c : Code), P.funcs[f]? = some fn ∧ fn.body = some c) ∧ ∀ args pre v post n dn, S args pre v post n dn → ZB P f args pre v post n dn
  mark : ∀ (f : Nat) (n : Nat), ext f = some (.mark n) → ∃ fn : Func, P.funcs[f]? = some fn ∧ fn.body.isNone = true ∧ Extern.findNext fn = none ∧
    (n = 0 ∧ (∃ m : Mark, Extern.find fn = some (fun _ => do mark m; pure Extern.Race.none_)) ∨ n = 1 ∧ ∃ m : Addr → Mark, Extern.find fn = some (Extern.Race.marked m))
  ext : ∀ (f : Nat) (kk : IntKind) (e : Nat), ext f = some (.at kk e) → ∃ fn : Func, P.funcs[f]? = some fn ∧ fn.body.isNone = true ∧ Extern.findNext fn = none ∧
    (e = 0 ∧ Extern.find fn = some (Extern.Atomic.loadT (.int kk)) ∨ e = 1 ∧ Extern.find fn = some Extern.Atomic.storeT ∨
     e = 2 ∧ Extern.find fn = some (Extern.Atomic.update (Op.intArith .add) kk true) ∨ e = 3 ∧ Extern.find fn = some (Extern.Atomic.casT (.int kk)))
section
variable {P : Program} {ext : FuncId → Option Ext}

theorem up_fn {g : List Value → Option Value} {args : Array Value} {s s' : St} {v : Value} (h : ZtT g args s = some (v, s')) : Up s s' := by
  unfold ZtT at h
  replace h := (Zn h).2
  split at h
  · replace h := (Zn h).2
    injection h with h; injection h with h1 h2; subst h1 h2; exact Up.refl _
  · cases h
theorem Zlr {α : Type} {b : Bool} {x : Option α} {y : α} (h : (bif b then none else x) = some y) : b = false ∧ x = some y := by
  cases b with
  | true => simp at h
  | false => exact ⟨rfl, by simpa using h⟩
theorem ZaD {ops : Array Oper} {T : Tr Value} {o : Oper} {s s' : St} {b : Bool} (h : ZdS ops T o s = some (b, s')) : Up s s' := by
  unfold ZdS at h
  split at h
  · injection h with h; injection h with h1 h2; subst h1 h2; exact Up.refl _
  · split at h
    · split at h
      · injection h with h; injection h with h1 h2; subst h1 h2; exact Up.refl _
      · injection h with h; injection h with h1 h2; subst h1 h2; exact Up.refl _
      · cases h
    · cases h
theorem ZjX {h : Tr AObj} (k : Nat) : ∀ (t : List Nat), (ZjU h t).get k = if k ∈ t then h.get k else none
  | [] => by simp [ZjU, Tr.get_nil]
  | j :: t => by
    rw [ZjU, Tr.get_set]
    by_cases hk : k = j
    · subst hk; rw [Zw]; simp
    · rw [Zm hk, ZjX k t]
      simp [hk]
theorem Zd3 {r h : Tr AObj} (k : Nat) : ∀ (t : List Nat), (ZeO r t h).get k = if k ∈ t then r.get k else h.get k
  | [] => by simp [ZeO]
  | j :: t => by
    rw [ZeO, Tr.get_set]
    by_cases hk : k = j
    · subst hk; rw [Zw]; simp
    · rw [Zm hk, Zd3 k t]
      simp [hk]
section
variable {P : Program}
/-! ### What is elsewhere stays -/
noncomputable def join (h x : AH) : AH := fun k => match h k with | some o => some o | none => x k
theorem Zd4 {h x : AH} {k : Nat} (hk : (h k).isSome) : join h x k = h k := by
  unfold join
  cases he : h k with
  | none => rw [he] at hk; cases hk
  | some o => rfl
theorem Zb5 {h x : AH} {k : Nat} (hk : h k = none) : join h x k = x k := by unfold join; rw [hk]
theorem Emb.sub {ι : Ren} {h g : AH} {w : World} (e : Emb P ι g w) (hs : ∀ k o, h k = some o → g k = some o) : Emb P ι h w := by
  have iso : ∀ k, sol (h k) → sol (g k) := fun k hk => by
    cases he : h k with
    | none => rw [he] at hk; cases hk
    | some o => rw [hs k o he, ← he]; exact hk
  have isoC : ∀ k, isC (h k) = true → isC (g k) = true := fun k hk => by
    cases he : h k with
    | none => rw [he] at hk; cases hk
    | some o => rw [hs k o he, ← he]; exact hk
  exact ⟨fun k c t q hk => e.obj k c t q (hs k _ hk), fun k O hk => e.ro k O (hs k _ hk), fun k k' b b' h1 h2 => e.inj k k' b b' (isoC k h1) (iso k' h2), e.lt, fun b base id q hq => ⟨(e.mks b base id q hq).1, (e.mks b base id q hq).2.1, fun k d hk hd => (e.mks b base id q hq).2.2 k d (isoC k hk) hd⟩, e.tb⟩
theorem Step.framed {ι ι' : Ren} {h h' x : AH} {w w' : World} (st : Step P ι h w ι' h' w') (e : Emb P ι (join h x) w) (hx : ∀ k, (x k).isSome → h k = none) :
    Step P ι (join h x) w ι' (join h' x) w' := by
  have hl : ∀ k, sol (h k) → sol (join h x k) := fun k hk => by rw [Zd4 (ZeQ hk)]; exact hk
  have hlC : ∀ k, isC (h k) = true → isC (join h x k) = true := fun k hk => by rw [Zd4 (ZbW hk)]; exact hk
  have xlC : ∀ k, isC (x k) = true → isC (join h x k) = true := fun k hk => by rw [Zb5 (hx k (ZbW hk))]; exact hk
  have xl : ∀ k, sol (x k) → sol (join h x k) := fun k hk => by rw [Zb5 (hx k (ZeQ hk))]; exact hk
  have xi : ∀ k, (x k).isSome → (join h x k).isSome := fun k hk => by rw [Zb5 (hx k hk)]; exact hk
  have partsS : ∀ k, sol (join h' x k) → sol (h' k) ∨ (h' k = none ∧ sol (x k)) := fun k hk => by
    cases he : h' k with
    | some o => rw [Zd4 (by rw [he]; rfl), he] at hk; exact .inl hk
    | none => rw [Zb5 he] at hk; exact .inr ⟨rfl, hk⟩
  have parts : ∀ k, (join h' x k).isSome → (h' k).isSome ∨ (h' k = none ∧ (x k).isSome) := fun k hk => by
    cases he : h' k with
    | some o => exact .inl rfl
    | none => rw [Zb5 he] at hk; exact .inr ⟨rfl, hk⟩
  have partsC : ∀ k, isC (join h' x k) = true → isC (h' k) = true ∨ (h' k = none ∧ isC (x k) = true) := fun k hk => by
    cases he : h' k with
    | some o => rw [Zd4 (by rw [he]; rfl), he] at hk; exact .inl hk
    | none => rw [Zb5 he] at hk; exact .inr ⟨rfl, hk⟩
  have xι : ∀ k, (x k).isSome → ∃ b, ι k = some b ∧ ι' k = some b := fun k hk => by
    obtain ⟨b, hb⟩ := e.live (xi k hk)
    exact ⟨b, hb, st.ext k b hb⟩
  refine ⟨st.ext, ⟨fun k c t q hk => ?_, fun k O hk => ?_, fun k k' b b' h1 h2 h3 h4 h5 => ?_, st.emb.lt, ?_, st.emb.tb⟩, st.os, st.tape, st.output, st.size, fun b hb hno => st.frame b hb fun k c hk => hno k c (hlC k hk), fun k b h1 h2 => ?_, fun k h1 h2 => ?_, fun k h1 h2 => ?_⟩
  · rcases parts k (by rw [hk]; rfl) with h1 | ⟨h1, h2⟩
    · rw [Zd4 h1] at hk
      exact st.emb.obj k c t q hk
    · rw [Zb5 h1] at hk
      obtain ⟨b, hb, hz | ⟨q0, C, hB, hC, hQ⟩⟩ := e.obj k c t q (by rw [Zb5 (hx k h2)]; exact hk)
      · exact ⟨b, st.ext k b hb, .inl hz⟩
      refine ⟨b, st.ext k b hb, .inr ⟨q0, C, ?_, hC.ext st.ext, hQ⟩⟩
      rw [st.frame b.1 (e.lt k b hb)]
      · exact hB
      · intro j d hj hd he
        have : j = k := e.inj j k d b (hlC j hj) (xl k (by rw [hk]; exact Zgc q0)) hd hb he
        subst this
        rw [hx j h2] at hj
        cases hj
  · rcases parts k (by rw [hk]; rfl) with h1 | ⟨h1, h2⟩
    · rw [Zd4 h1] at hk
      exact st.emb.ro k O hk
    · rw [Zb5 h1] at hk
      obtain ⟨b, hb, hB⟩ := e.ro k O (by rw [Zb5 (hx k h2)]; exact hk)
      refine ⟨b, st.ext k b hb, ?_⟩
      rw [st.frame b.1 (e.lt k b hb)]
      · exact hB
      · intro j d hj hd he
        have : j = k := e.inj j k d b (hlC j hj) (xl k (by rw [hk]; rfl)) hd hb he
        subst this
        rw [hx j h2] at hj
        cases hj
  · -- one of h', one of x
    have mixed : ∀ {k k' : Nat} {b b' : Nat × Nat}, sol (h' k) → sol (x k') → (isC (h' k) = true ∨ isC (x k') = true) → ι' k = some b → ι' k' = some b' → b.1 = b'.1 → k = k' := fun {k k' b b'} h1 h2 hor h3 h4 h5 => by
      obtain ⟨c, hc, hc'⟩ := xι k' (ZeQ h2)
      rw [h4] at hc'; injection hc' with hc'; subst hc'
      cases hk : ι k with
      | some d =>
        have e1 := st.ext k d hk
        rw [h3] at e1; injection e1 with e1; subst e1
        rcases hor with hC | hC
        · exact e.inj k k' b b' (hlC k (st.kind k hC (by rw [hk]; simp))) (xl k' h2) hk hc h5
        · exact (e.inj k' k b' b (xlC k' hC) (hl k (st.alive k h1 (by rw [hk]; simp))) hc hk h5.symm).symm
      | none =>
        rcases st.new k b hk h3 with h6 | ⟨j, d, hj, hd, he⟩
        · have := e.lt k' b' hc
          omega
        · have : j = k' := e.inj j k' d b' (hlC j hj) (xl k' h2) hd hc (he.trans h5)
          subst this
          rw [hx j (ZeQ h2)] at hj
          cases hj
    rcases partsC k h1 with q1 | ⟨_, q1⟩ <;> rcases partsS k' h2 with q2 | ⟨_, q2⟩
    · exact st.emb.inj k k' b b' q1 q2 h3 h4 h5
    · exact mixed (Zgc q1) q2 (.inl q1) h3 h4 h5
    · exact (mixed q2 (Zgc q1) (.inr q1) h4 h3 h5.symm).symm
    · obtain ⟨c, hc, hc'⟩ := xι k (ZbW q1)
      obtain ⟨d, hd, hd'⟩ := xι k' (ZeQ q2)
      rw [h3] at hc'; injection hc' with hc'; subst hc'
      rw [h4] at hd'; injection hd' with hd'; subst hd'
      exact e.inj k k' b b' (xlC k q1) (xl k' q2) hc hd h5
  · intro b base id q hq
    obtain ⟨m1, m2, m3⟩ := st.emb.mks b base id q hq
    refine ⟨m1, m2, fun k d hk hd => ?_⟩
    rcases partsC k hk with q1 | ⟨_, q1⟩
    · exact m3 k d q1 hd
    · obtain ⟨c, hc, hc'⟩ := xι k (ZbW q1)
      rw [hd] at hc'; injection hc' with hc'; subst hc'
      cases hm : ι (Zav b base id) with
      | some q' => exact (e.mks b base id q' hm).2.2 k d (xlC k q1) hc
      | none =>
        rcases st.new _ q hm hq with h6 | ⟨j, c', hj, hc'', he⟩
        · have := e.lt k d hc
          omega
        · intro hdb
          have : j = k := e.inj j k c' d (hlC j hj) (xl k (Zgc q1)) hc'' hc (by omega)
          subst this
          rw [hx j (ZbW q1)] at hj
          cases hj
  · rcases st.new k b h1 h2 with h3 | ⟨j, c, hj, hc⟩
    · exact .inl h3
    · exact .inr ⟨j, c, hlC j hj, hc⟩
  · rcases partsS k h1 with q1 | ⟨_, q1⟩
    · exact hl k (st.alive k q1 h2)
    · exact xl k q1
  · rcases partsC k h1 with q1 | ⟨_, q1⟩
    · exact hlC k (st.kind k q1 h2)
    · exact xlC k q1

end
theorem Zmh (h : Tr AObj) : ∀ (l : List (Nat × Option AObj)) (k : Nat), (ZmK h l).get k = match Za2 k l with | some o => o | none => h.get k
  | [], k => rfl
  | x :: l, k => by
    show ((ZmK h l).set x.1 x.2).get k = _
    rw [Tr.get_set]
    unfold Za2
    by_cases hk : k = x.1
    · subst hk
      rw [Zw, Nat.beq_refl]
      rfl
    · rw [Zm hk, Zmh h l k, Zhc (fun e => hk e.symm)]
      rfl
theorem Zj2 {α : Type} {k : Nat} {o : α} : ∀ {l : List (Nat × α)}, Za2 k l = some o → (k, o) ∈ l
  | [], h => by cases h
  | x :: l, h => by
    unfold Za2 at h
    cases hb : Nat.beq x.1 k with
    | true =>
      rw [hb] at h
      injection h with h
      have := Nat.eq_of_beq_eq_true hb
      obtain ⟨a, b⟩ := x
      subst this h
      exact List.mem_cons_self
    | false =>
      rw [hb] at h
      exact List.mem_cons_of_mem _ (Zj2 h)
theorem Zn1 {pre : List (Nat × AObj)} {n n' : Nat} : ∀ {post : List (Nat × Option AObj)}, Zov pre n n' post = true → ∀ k o, Za2 k post = some o → (Za2 k pre).isSome ∨ (o.isSome ∧ n ≤ k ∧ k < n')
  | [], _, k, o, h => by cases h
  | x :: l, hk, k, o, h => by
    simp only [Zov, Bool.and_eq_true, Bool.or_eq_true] at hk
    unfold Za2 at h
    cases hb : Nat.beq x.1 k with
    | true =>
      rw [hb] at h
      injection h with h
      have := Nat.eq_of_beq_eq_true hb
      subst this h
      rcases hk.1 with h1 | ⟨h0, h1, h2⟩
      · exact .inl h1
      · exact .inr ⟨h0, Nat.le_of_ble_eq_true h1, Nat.le_of_ble_eq_true h2⟩
    | false => rw [hb] at h; exact Zn1 hk.2 k o h
theorem Zk8 {s : St} : ∀ (l : List (Nat × AObj)), s.ob <:+ ZmL s l
  | [] => List.suffix_refl _
  | x :: l => (Zk8 l).trans (List.suffix_cons _ _)
theorem Zn2 {s : St} : ∀ {l : List (Nat × AObj)} {x : Nat × AObj}, x ∈ l → (AObj.sameAs (s.h.get x.1) x.2, true) ∈ ZmL s l
  | y :: l, x, h => by
    rcases List.mem_cons.1 h with rfl | h
    · exact List.mem_cons_self
    · exact List.mem_cons_of_mem _ (Zn2 h)
theorem ZsZ {o : Option AObj} {p : AObj} (h : AObj.sameAs o p = true) : o = some p := by
  unfold AObj.sameAs at h
  split at h
  · rename_i c t c' t'
    cases hb : Nat.beq t t' with
    | true =>
      rw [hb] at h
      rw [Nat.eq_of_beq_eq_true hb, Zab.1 h]
    | false => rw [hb] at h; cases h
  · rename_i c t c' t'
    cases hb : Nat.beq t t' with
    | true =>
      rw [hb] at h
      rw [Nat.eq_of_beq_eq_true hb, Zab.1 h]
    | false => rw [hb] at h; cases h
  · rw [Zab.1 h]
  · rw [Zab.1 h]
  · cases h
theorem ZrD {S : Array Value → List (Nat × AObj) → Value → List (Nat × Option AObj) → Nat → Nat → Prop} {args : Array Value} {pre : List (Nat × AObj)} {u v : Value} {post : List (Nat × Option AObj)} {dn : Nat} {s s' : St} (h : Zln S args pre u post dn s = some (v, s')) : Up s s' := by
  unfold Zln at h
  replace h := (Zn h).2
  injection h with h
  injection h with h1 h2
  subst h1 h2
  refine ⟨Nat.le_add_right _ _, (Zk8 pre).trans (List.suffix_cons _ _), _, rfl, fun k hk _ => ?_⟩
  show (ZmK s.h post).get k = _
  rw [Zmh]
  cases hl : Za2 k post with
  | none => rfl
  | some o => exact absurd (List.mem_map.2 ⟨_, Zj2 hl, rfl⟩) hk
theorem ZrE {S : Array Value → List (Nat × AObj) → Value → List (Nat × Option AObj) → Nat → Nat → Prop} {args : Array Value} {pre : List (Nat × AObj)} {u v : Value} {post : List (Nat × Option AObj)} {dn : Nat} {s s' : St} (h : Zrr S args pre u post dn s = some (v, s')) : Zcs u = false ∧ Zln S args pre u post dn s = some (v, s') := by
  unfold Zrr at h
  split at h
  · cases h
  · exact ⟨by assumption, h⟩
theorem ZwN {S : Array Value → List (Nat × AObj) → Value → List (Nat × Option AObj) → Nat → Nat → Prop} {args : Array Value} {pre : List (Nat × AObj)} {u v : Value} {post : List (Nat × Option AObj)} {dn : Nat} {s s' : St} (h : Zrr S args pre u post dn s = some (v, s')) : Up s s' := ZrD (ZrE h).2
theorem Zn3 {P : Program} {f : FuncId} {S : Array Value → List (Nat × AObj) → Value → List (Nat × Option AObj) → Nat → Nat → Prop} (hS : ∀ args pre v post n dn, S args pre v post n dn → ZB P f args pre v post n dn) {args args' : Array Value} {pre : List (Nat × AObj)} {u v : Value} {post : List (Nat × Option AObj)} {dn : Nat} {s s' : St} (h : Zln S args pre u post dn s = some (v, s')) (ho : ∀ p ∈ s'.ob, p.1 = p.2)
    {ι : Ren} {w : World} (ha : VRs ι args args') (he : Emb P ι s.h.get w) (hf : Fresh ι s.n s'.n) : v = u ∧ Calls P f args' w fun e w' => ZiT P ι s w v s' e w' ∨ (Zcs v = true ∧ ∃ ι', e = .panicked (Ze0 v) ∧ Step P ι s.h.get w ι' s'.h.get w' ∧ Dom ι ι' s.n s'.n) := by
  unfold Zln at h
  obtain ⟨hg, h⟩ := Zn h
  simp only [Bool.and_eq_true] at hg
  injection h with h
  injection h with h1 h2
  subst h1 h2
  have hc := hS _ _ _ _ _ _ (Zab.1 (ho _ List.mem_cons_self))
  have hpre : ∀ k o, Za2 k pre = some o → s.h.get k = some o := fun k o hk => ZsZ (ho (AObj.sameAs (s.h.get k) o, true) (List.mem_cons_of_mem _ (Zn2 (x := (k, o)) (Zj2 hk))))
  let x : AH := fun k => if (Za2 k pre).isSome then none else s.h.get k
  have hx : ∀ k, (x k).isSome → (fun k => Za2 k pre) k = none := fun k hk => by
    show Za2 k pre = none
    cases hl : Za2 k pre with
    | none => rfl
    | some o => simp [x, hl] at hk
  have e1 : join (fun k => Za2 k pre) x = s.h.get := funext fun k => by
    cases hl : Za2 k pre with
    | none => rw [Zb5 hl]; simp [x, hl]
    | some o => rw [Zd4 (h := fun k => Za2 k pre) (by simp [hl])]; simp only [hl]; exact (hpre k o hl).symm
  have e2 : join (behind pre post) x = (ZmK s.h post).get := funext fun k => by
    rw [Zmh]
    cases hl : Za2 k post with
    | some o =>
      cases o with
      | some o =>
        have hb : behind pre post k = some o := by unfold behind; rw [hl]
        rw [Zd4 (by rw [hb]; rfl), hb]
      | none =>
        have hb : behind pre post k = none := by unfold behind; rw [hl]
        rw [Zb5 hb]
        rcases Zn1 hg.1 k none hl with h1 | ⟨h1, _⟩
        · simp [x, h1]
        · cases h1
    | none =>
      have hb : behind pre post k = Za2 k pre := by unfold behind; rw [hl]
      cases hp : Za2 k pre with
      | none => rw [Zb5 (by rw [hb, hp])]; simp [x, hp]
      | some o => rw [Zd4 (by rw [hb, hp]; rfl), hb, hp]; exact (hpre k o hp).symm
  refine ⟨rfl, (hc ι w args' ha (he.sub fun k o hk => hpre k o hk) hf).mono ?_⟩
  rintro e w' (⟨v', ι', rfl, g1, g2, g3⟩ | ⟨ht, ι', rfl, g1, g2⟩)
  · have := g1.framed (x := x) (by rw [e1]; exact he) hx
    rw [e1, e2] at this
    exact .inl ⟨v', ι', rfl, this, g2, g3⟩
  · have := g1.framed (x := x) (by rw [e1]; exact he) hx
    rw [e1, e2] at this
    exact .inr ⟨ht, ι', rfl, this, g2⟩
theorem Zum {P : Program} {f : FuncId} {S : Array Value → List (Nat × AObj) → Value → List (Nat × Option AObj) → Nat → Nat → Prop} (hS : ∀ args pre v post n dn, S args pre v post n dn → ZB P f args pre v post n dn) {args args' : Array Value} {pre : List (Nat × AObj)} {u v : Value} {post : List (Nat × Option AObj)} {dn : Nat} {s s' : St} (h : Zrr S args pre u post dn s = some (v, s')) (ho : ∀ p ∈ s'.ob, p.1 = p.2)
    {ι : Ren} {w : World} (ha : VRs ι args args') (he : Emb P ι s.h.get w) (hf : Fresh ι s.n s'.n) : Calls P f args' w (ZiT P ι s w v s') := by
  obtain ⟨h1, h2⟩ := ZrE h
  obtain ⟨rfl, h3⟩ := Zn3 hS h2 ho ha he hf
  refine h3.mono ?_
  rintro e w' (h4 | ⟨h4, _⟩)
  · exact h4
  · rw [h1] at h4; cases h4
theorem Zbf (hup : ∀ (f : Nat) (g : Array Value → St → Out), ext f = some (.hp g) → ∀ args s v s', g args s = some (v, s') → Up s s') : ∀ fu : Nat, (∀ nt c T s e T' s', Zal P ext nt fu c T s = some (e, T', s') → Up s s') ∧ (∀ nt ops l T s T' s', Zhb P ext nt fu ops l T s = some (T', s') → Up s s') ∧
    (∀ ρ o s v s', Zf6 P ext fu ρ o s = some (v, s') → Up s s') ∧ (∀ f args s v s', ZdE P ext fu f args s = some (v, s') → Up s s') ∧ (∀ nt ops done l T s es T' s', ZdX P ext nt fu ops done l T s = some (es, T', s') → Up s s') ∧ (∀ xs ρ o s v s' r, ZiR P ext fu xs ρ o s = some (v, s', r) → Up s s') := by
  intro fu
  induction fu with
  | zero => exact ⟨fun _ _ _ _ _ _ _ h => by simp [Zal] at h, fun _ _ _ _ _ _ _ h => by simp [Zhb, St.keep_eq] at h, fun _ _ _ _ _ h => by simp [Zf6] at h, fun _ _ _ _ _ h => by simp [ZdE] at h, fun _ _ _ _ _ _ _ _ _ h => by simp [ZdX, St.keep_eq] at h, fun _ _ _ _ _ _ _ h => by simp [ZiR] at h⟩
  | succ fu ih =>
    obtain ⟨ihC, ihO, ihP, ihF, ihD, ihE⟩ := ih
    refine ⟨fun nt c T s e T' s' h => ?_, fun nt ops l T s T' s' h => ?_, fun ρ o s v s' h => ?_, fun f args s v s' h => ?_, fun nt ops done l T s es T' s' h => ?_, fun xs ρ o s v s' r h => ?_⟩
    · cases c <;> simp only [Zal] at h
      case skip => injection h with h; simp only [Prod.mk.injEq] at h; obtain ⟨_, _, rfl⟩ := h; exact Up.refl _
      case label l => injection h with h; simp only [Prod.mk.injEq] at h; obtain ⟨_, _, rfl⟩ := h; exact Up.refl _
      case scope c => exact ihC _ _ _ _ _ _ _ h
      case ret => injection h with h; simp only [Prod.mk.injEq] at h; obtain ⟨_, _, rfl⟩ := h; exact Up.refl _
      case exit id => injection h with h; simp only [Prod.mk.injEq] at h; obtain ⟨_, _, rfl⟩ := h; exact Up.refl _
      case seq a b =>
        split at h
        · exact (ihC _ _ _ _ _ _ _ (by assumption)).trans (ihC _ _ _ _ _ _ _ h)
        · injection h with h; simp only [Prod.mk.injEq] at h; obtain ⟨_, _, rfl⟩ := h; exact ihC _ _ _ _ _ _ _ (by assumption)
        · injection h with h; simp only [Prod.mk.injEq] at h; obtain ⟨_, _, rfl⟩ := h; exact ihC _ _ _ _ _ _ _ (by assumption)
        · cases h
      case cond x a b =>
        split at h
        · split at h
          · exact ihC _ _ _ _ _ _ _ h
          · exact ihC _ _ _ _ _ _ _ h
        · cases h
      case block id a =>
        split at h
        · rename_i i T1 s1 h1
          cases hb : Nat.beq i id <;> rw [hb] at h <;> (injection h with h; simp only [Prod.mk.injEq] at h; obtain ⟨_, _, rfl⟩ := h; exact ihC _ _ _ _ _ _ _ (by assumption))
        · injection h with h; simp only [Prod.mk.injEq] at h; obtain ⟨_, _, rfl⟩ := h; exact ihC _ _ _ _ _ _ _ (by assumption)
        · injection h with h; simp only [Prod.mk.injEq] at h; obtain ⟨_, _, rfl⟩ := h; exact ihC _ _ _ _ _ _ _ (by assumption)
        · cases h
      case loop a =>
        split at h
        · exact (ihC _ _ _ _ _ _ _ (by assumption)).trans (ihC _ _ _ _ _ _ _ h)
        · injection h with h; simp only [Prod.mk.injEq] at h; obtain ⟨_, _, rfl⟩ := h; exact ihC _ _ _ _ _ _ _ (by assumption)
        · injection h with h; simp only [Prod.mk.injEq] at h; obtain ⟨_, _, rfl⟩ := h; exact ihC _ _ _ _ _ _ _ (by assumption)
        · cases h
      case region id ops draw =>
        cases draw with
        | true =>
          simp only [cond_true] at h
          split at h
          · injection h with h; simp only [Prod.mk.injEq] at h; obtain ⟨_, _, rfl⟩ := h; exact ihD _ _ _ _ _ _ _ _ _ (by assumption)
          · cases h
        | false =>
          simp only [cond_false] at h
          split at h
          · injection h with h; simp only [Prod.mk.injEq] at h; obtain ⟨_, _, rfl⟩ := h; exact ihO _ _ _ _ _ _ _ (by assumption)
          · cases h
      all_goals cases h
    · cases l with
      | nil => simp only [Zhb, St.keep_eq] at h; injection h with h; simp only [Prod.mk.injEq] at h; obtain ⟨_, rfl⟩ := h; exact Up.refl _
      | cons o l =>
        simp only [Zhb, St.keep_eq] at h
        replace h := (Zn h).2
        split at h
        · split at h
          · exact (ZaD (by assumption)).trans ((ihP _ _ _ _ _ (by assumption)).trans (ihO _ _ _ _ _ _ _ h))
          · cases h
        · exact (ZaD (by assumption)).trans (ihO _ _ _ _ _ _ _ h)
        · cases h
    · simp only [Zf6] at h
      split at h
      · split at h
        · split at h
          · split at h
            · exact (ZQ (by assumption)).trans (Zuh h)
            · cases h
            · exact (ZQ (by assumption)).trans (Zvk h)
          · exact ZwK h
          · exact hup _ _ (by assumption) _ _ _ _ h
          · split at h
            · exact (ZQ (by assumption)).trans (ZwN h)
            · cases h
          · exact up_fn h
          · exact ihF _ _ _ _ _ h
        · cases h
      · split at h
        · rename_i v1 s1 h1
          injection h with h
          exact (Zxv h1).trans (Ztv h)
        · cases h
    · simp only [ZdE] at h
      split at h
      · split at h
        · replace h := (Zn h).2
          split at h
          · cases h
          · split at h
            · injection h with h; simp only [Prod.mk.injEq] at h; obtain ⟨_, rfl⟩ := h; exact ihC _ _ _ _ _ _ _ (by assumption)
            · injection h with h; simp only [Prod.mk.injEq] at h; obtain ⟨_, rfl⟩ := h; exact ihC _ _ _ _ _ _ _ (by assumption)
            · cases h
          · cases h
        · cases h
      · cases h
    · cases l with
      | nil => simp only [ZdX, St.keep_eq] at h; injection h with h; simp only [Prod.mk.injEq] at h; obtain ⟨_, _, rfl⟩ := h; exact Up.refl _
      | cons o l =>
        simp only [ZdX, St.keep_eq] at h
        replace h := (Zn h).2
        split at h
        · split at h
          · replace h := (Zn h).2
            exact (ZaD (by assumption)).trans ((ihE _ _ _ _ _ _ _ (by assumption)).trans (ihD _ _ _ _ _ _ _ _ _ h))
          · cases h
        · replace h := (Zn h).2
          exact (ZaD (by assumption)).trans (ihD _ _ _ _ _ _ _ _ _ h)
        · cases h
    · simp only [ZiR] at h
      split at h
      · split at h
        · rename_i v1 s1 h1
          obtain ⟨hg, h⟩ := Zn h
          injection h with h; simp only [Prod.mk.injEq] at h; obtain ⟨_, rfl, _⟩ := h
          have u := ihP _ _ _ _ _ h1
          obtain ⟨l, e1, e2⟩ := u.log
          simp only [List.append_nil] at e1
          refine ⟨u.n, u.ob, l, by rw [e1], fun k hk hn => ?_⟩
          show (ZeO _ _ _).get k = _
          rw [Zd3]
          split
          · rfl
          · rename_i hm
            rw [e2 k hk hn]
            show (ZeO _ _ _).get k = _
            rw [Zd3, if_neg hm]
        · cases h
      · replace h := (Zn h).2
        generalize (ZgQ s ρ o).1 = w at h
        generalize (ZgQ s ρ o).2 = t at h
        generalize Zk5 ρ o = q at h
        split at h
        · rename_i v1 s1 h1
          obtain ⟨hg, h⟩ := Zn h
          injection h with h; simp only [Prod.mk.injEq] at h; obtain ⟨_, rfl, _⟩ := h
          have u := ihP _ _ _ _ _ h1
          obtain ⟨l, e1, e2⟩ := u.log
          simp only [List.append_nil] at e1
          refine ⟨u.n, u.ob, l, by rw [e1], fun k hk hn => ?_⟩
          show (Tr.set _ _ _).get k = _
          rw [Tr.get_set]
          by_cases hkn : k = s.n
          · subst hkn
            rw [Zw]
            have hn' : ¬ s.n < s1.n := fun e => hn ⟨Nat.le_refl _, e⟩
            have : s1.n = s.n := by have := u.n; simp only at this; omega
            rw [Zhd this]
            rfl
          · rw [Zm hkn]
            cases w with
            | false => rfl
            | true =>
              simp only [cond_true]
              rw [Zd3]
              split
              · rename_i hm
                rw [e2 k hk hn, ZjX, if_pos (List.mem_append_left _ hm)]
              · rfl
        · cases h
end
end Ev
end Go.Proofs.YtlbbiflodemagaaDoor
/- The runner against the model: what it says holds in every world. -/
namespace Go.Proofs.YtlbbiflodemagaaDoor
open Go.RowKit
namespace Ev
section
variable {P : Program} {ext : FuncId → Option Ext}

def Ex.out : Ex → Exit
 | .normal => .normal
 | .exit id => .exit id
 | .ret => .ret
def TR (ι : Ren) (nt : Nat) (D : List Deferred) (T : Tr Value) (a : Act) : Prop := a.tmps.size = nt ∧ a.defers = D ∧ ∀ t, VR ι ((T.get t).getD undef) (a.tmps.getD t undef)
theorem TR.on {ι ι' : Ren} {nt : Nat} {D : List Deferred} {T : Tr Value} {a : Act} (h : TR ι nt D T a) (hi : ∀ k b, ι k = some b → ι' k = some b) : TR ι' nt D T a := ⟨h.1, h.2.1, fun t => (h.2.2 t).ext hi⟩
theorem VR.undef' {ι : Ren} : VR ι undef undef := VR.of_free rfl
theorem TR.put {ι : Ren} {nt : Nat} {D : List Deferred} {T : Tr Value} {a : Act} (h : TR ι nt D T a) {dst : Option Tmp} (hd : ZdL nt dst = true) {v v' : Value} (hv : VR ι v v') : TR ι nt D (Zcr T dst v) (a.put dst v') := by
 cases dst with
 | none => exact h
 | some d =>
  have hlt : d < a.tmps.size := by
   rw [h.1]
   simpa [ZdL, Nat.blt_eq] using hd
  refine ⟨by simp [Act.put, h.1], h.2.1, fun t => ?_⟩
  simp only [Zcr, Tr.get_set, Act.put]
  by_cases ht : t = d
  ·subst ht
   rw [Zw]
   simp [Array.getD, hlt]
   exact hv
  ·rw [Zm ht]
   have : (a.tmps.setIfInBounds d v').getD t undef = a.tmps.getD t undef := by
    simp [Array.getD_eq_getD_getElem?, Array.getElem?_setIfInBounds_ne (fun e => ht e.symm)]
   rw [this]
   exact h.2.2 t
def Zbj (a : Act) : Operand → Value
 | .const v => bif Zbv v then v else undef
 | x => a.eval x
theorem TR.opnd {ι : Ren} {nt : Nat} {D : List Deferred} {T : Tr Value} {a : Act} (h : TR ι nt D T a) (x : Operand) : VR ι (Ev.opnd T x) (Zbj a x) := by
 cases x with
 | tmp t => exact h.2.2 t
 | const v =>
  simp only [Ev.opnd, Zbj]
  cases hf : Zbv v
  ·exact VR.undef'
  ·exact VR.of_free hf
 | global g => exact .glob rfl
 | func f => exact .atom rfl
theorem Zea {a : Act} {o : Oper} (hs : ∀ cs b, o.op ≠ .select cs b) (hg : Z4 Zew o.op.operands.toList = true) : execOp (Zbj a) o = execOp a.eval o :=
 execOp_congr o hs fun x hx => by
  have := Zat hg x (by simpa using hx)
  cases x with
  | const v =>
   simp only [Zew] at this
   simp [Zbj, this, Act.eval]
  | _ => rfl
theorem Zdv {a : Act} {x : Operand} {t : Bool} (h : Zbj a x = .bool t) : a.eval x = .bool t := by
 cases x with
 | const v =>
  simp only [Zbj] at h
  cases hf : Zbv v <;> rw [hf] at h
  ·simp [undef] at h
  ·exact h
 | _ => exact h
theorem ZbJ {ι : Ren} {T : Tr Value} {a : Act} {ops : Array Oper} {o : Oper} {s s' : St} {b : Bool} (h : ∀ t ∈ o.looksAt ops, VR ι ((T.get t).getD undef) (a.tmps.getD t undef)) (hw : ZdS ops T o s = some (b, s')) :
  Region.wanted o (yielded ops a.tmps) = b ∧ s'.h = s.h ∧ s'.n = s.n := by
 unfold ZdS at hw
 unfold Region.wanted
 split at hw
 ·rename_i hg
  injection hw with hw; injection hw with h1 h2; subst h1 h2
  rw [hg]
  exact ⟨rfl, rfl, rfl⟩
 ·rename_i j want hg
  rw [hg]
  simp only
  split at hw
  ·rename_i d hd
   have hv := h d (by unfold Oper.looksAt; rw [hg]; simp [hd])
   split at hw
   ·rename_i q hq
    rw [hq] at hv
    have hv' := hv.bool_inv
    have hget : a.tmps[d]? = some (.bool q) := by
     simp only [Array.getD_eq_getD_getElem?] at hv'
     cases hx : a.tmps[d]? with
     | none => rw [hx] at hv'; simp [undef] at hv'
     | some u => rw [hx] at hv'; simpa using hv'
    have hy : yielded ops a.tmps j = some q := by
     unfold yielded
     rw [hd]
     simp [hget]
    rw [hy]
    injection hw with hw; injection hw with h1 h2; subst h1 h2
    exact ⟨by cases q <;> cases want <;> rfl, rfl, rfl⟩
   ·rename_i u hq
    injection hw with hw; injection hw with h1 h2; subst h1 h2
    rw [hq] at hv
    refine ⟨?_, rfl, rfl⟩
    have hy : yielded ops a.tmps j = none := by
     unfold yielded
     rw [hd]
     simp only [Option.bind_some]
     split
     ·rename_i c hc
      exfalso
      simp only [Array.getD_eq_getD_getElem?, hc, Option.getD_some] at hv
      cases hv
     ·rfl
    rw [hy]
    rfl
   ·cases hw
  ·cases hw
def Zk9 (tmps : Array Value) : ResultVar → Sem Value
 | .tmp t => pure (tmps.getD t undef)
 | .cell b t => do loadVar t (← asAddr (tmps.getD b undef))
theorem Zi8 {ι : Ren} {nt : Nat} {D : List Deferred} {T : Tr Value} {a : Act} {s : St} {w : World} (h : TR ι nt D T a) (he : Emb P ι s.h.get w) : ∀ (rs : List ResultVar) (l : List Value), ZaW P T s rs = some l →
  ∃ l' : List Value, (rs.mapM (Zk9 a.tmps)).run P w = .ok l' w ∧ l.length = l'.length ∧ ∀ (i : Nat) x y, l[i]? = some x → l'[i]? = some y → VR ι x y
 | [], l, hr => by
  simp only [ZaW, Option.some.injEq] at hr
  subst hr
  exact ⟨[], by simp [Sem.run], rfl, fun i x y hx => by simp at hx⟩
 | .tmp t :: rs, l, hr => by
  simp only [ZaW] at hr
  split at hr
  ·rename_i r hr'
   injection hr with hr
   subst hr
   obtain ⟨l', h1, h2, h3⟩ := Zi8 h he rs r hr'
   refine ⟨a.tmps.getD t undef :: l', ?_, by simp [h2], fun i x y hx hy => ?_⟩
   ·have e0 : (Zk9 a.tmps (.tmp t)).run P w = .ok (a.tmps.getD t undef) w := rfl
    simp only [List.mapM_cons, Sem.run_bind, e0, Result.andThen, h1]
    rfl
   ·cases i with
    | zero => simp at hx hy; subst hx hy; simpa using h.2.2 t
    | succ i => exact h3 i x y (by simpa using hx) (by simpa using hy)
  ·cases hr
 | .cell b t :: rs, l, hr => by
  simp only [ZaW] at hr
  split at hr
  ·rename_i k o hb
   split at hr
   ·rename_i u r hu hr'
    injection hr with hr
    subst hr
    obtain ⟨l', h1, h2, h3⟩ := Zi8 h he rs r hr'
    obtain ⟨bk, v', hbk, hrun, hv⟩ := ZlF he hu
    have hp := h.2.2 b
    rw [hb] at hp
    obtain ⟨bk', hbk', hp'⟩ := hp.ptr_inv
    rw [hbk] at hbk'; injection hbk' with hbk'; subst hbk'
    refine ⟨v' :: l', ?_, by simp [h2], fun i x y hx hy => ?_⟩
    ·have e0 : (Zk9 a.tmps (.cell b t)).run P w = .ok v' w := by
      simp [Zk9, hp', asAddr, hrun, -Array.getD_eq_getD_getElem?]
     simp only [List.mapM_cons, Sem.run_bind, e0, Result.andThen, h1]
     rfl
    ·cases i with
     | zero => simp at hx hy; subst hx hy; exact hv
     | succ i => exact h3 i x y (by simpa using hx) (by simpa using hy)
   ·cases hr
  ·cases hr
theorem Zcp {ι : Ren} {nt : Nat} {D : List Deferred} {T : Tr Value} {a : Act} {s : St} {w : World} {fn : Func} {v : Value} (h : TR ι nt D T a) (he : Emb P ι s.h.get w)
  (hr : (match ZaW P T s fn.results.toList with | some [v] => some v | some vs => some (.tuple vs.toArray) | none => none) = some v) : ∃ v', (results fn a.tmps).run P w = .ok v' w ∧ VR ι v v' := by
 have hR : results fn a.tmps = (do let vs ← fn.results.mapM (Zk9 a.tmps); pure (if h : vs.size = 1 then vs[0] else .tuple vs)) := rfl
 cases hx : ZaW P T s fn.results.toList with
 | none => rw [hx] at hr; cases hr
 | some l =>
  rw [hx] at hr
  obtain ⟨l', h1, h2, h3⟩ := Zi8 h he fn.results.toList l hx
  have hA : (fn.results.mapM (Zk9 a.tmps)).run P w = .ok l'.toArray w := by
   rw [Array.mapM_eq_mapM_toList]
   simp [h1]
  rw [hR]
  rcases l with _ | ⟨x, _ | ⟨y, l⟩⟩
  ·injection hr with hr
   subst hr
   have : l' = [] := List.eq_nil_of_length_eq_zero (by simpa using h2.symm)
   subst this
   exact ⟨.tuple #[], by simp [hA], .tuple rfl fun i x y hx => by simp at hx⟩
  ·injection hr with hr
   subst hr
   rcases l' with _ | ⟨x', _ | ⟨y', l'⟩⟩
   ·simp at h2
   ·exact ⟨x', by simp [hA], h3 0 x x' rfl rfl⟩
   ·simp at h2
  ·injection hr with hr
   subst hr
   have hne : ¬ l'.length = 1 := by simp at h2; omega
   exact ⟨.tuple l'.toArray, by simp [hA, hne], .tuple (by simpa using h2) fun i x y hx hy => h3 i x y (by simpa using hx) (by simpa using hy)⟩
end
end Ev
end Go.Proofs.YtlbbiflodemagaaDoor
/- The runner against the model: what it says holds in every world. -/
namespace Go.Proofs.YtlbbiflodemagaaDoor
open Go.RowKit
namespace Ev
section
variable {P : Program} {ext : FuncId → Option Ext}

theorem Zcc {f : FuncId} {fn : Func} {c : Code} (hf : P.funcs[f]? = some fn) (hn : (fn.name == "runtime.NumGoroutine") = false) (hb : fn.body = some c) (args : Array Value) (w : World) :
  (callFunc f args).run P w = .ok (.enter f args) w := by
 have h1 : fn.name ≠ "runtime.NumGoroutine" := by simpa using hn
 simp [callFunc, hf, h1, hb]
theorem ZwO {ι : Ren} {s : St} {w : World} (he : Emb P ι s.h.get w) {k o : Nat} {kk : IntKind} {v : Int} (h : rowAt s k o 1 = some [.int kk v]) : ∃ b C t, ι k = some b ∧ Cel w.heap[b.1]? C t ∧ w.cell? ⟨b.1, o, none⟩ = some (.int kk v) ∧ w.frozen? ⟨b.1, o, none⟩ = false := by
 obtain ⟨b, C, t, hb, hB, hl, hx⟩ := Zlo he h
 obtain ⟨y, hy, hv⟩ := hx 0 _ rfl
 obtain ⟨fr, hB', hu⟩ := hB.unf
 refine ⟨b, C, t, hb, hB, ?_, ZuN hB' hu (Array.getElem?_eq_some_iff.1 hy).1⟩
 rw [Zrt hB]
 simpa [hv.int_inv] using hy
theorem Zpx {w : World} {b o : Nat} {C : Array Value} {t : TypeId} {x : Value} {fr : Nat × Nat} (hB : w.heap[b]? = some (.cells C t fr)) (ho : o < C.size) : w.setRow b (C.toList.take o ++ [x] ++ C.toList.drop (o + 1)).toArray = w.setCell ⟨b, o, none⟩ x := by
 have e : (C.toList.take o ++ [x] ++ C.toList.drop (o + 1)).toArray = C.setIfInBounds o x := by
  apply Array.ext'
  simp only [Array.toList_setIfInBounds]
  rw [List.set_eq_take_append_cons_drop, if_pos (by simpa using ho)]
  simp
 rw [e]
 unfold World.setRow World.setCell
 congr 1
 apply Array.ext
 ·simp
 ·intro i h1 h2
  simp only [Array.getElem_modify]
  split
  ·rename_i hi
   subst hi
   have hlt : b < w.heap.size := (Array.getElem?_eq_some_iff.1 hB).1
   have : w.heap[b] = .cells C t fr := by
    have := Array.getElem?_eq_getElem hlt
    rw [hB] at this
    exact (Option.some.inj this).symm
   simp [this]
  ·rfl
theorem Zmi {ι : Ren} {s s' : St} {w : World} (he : Emb P ι s.h.get w) {k o : Nat} {x : Int} {kk : IntKind} (h : Zcx s k o [.int kk x] = some s') {b : Nat × Nat} (hb : ι k = some b) :
  Step P ι s.h.get w ι s'.h.get (w.setCell ⟨b.1, o, none⟩ (.int kk x)) ∧ s'.n = s.n := by
 obtain ⟨b2, w', hb2, _, hstep, hn, ⟨C, t, hB, hfit, hw⟩, _⟩ := Zi7 he (c := #[.int kk x]) h rfl (fun i a b h1 h2 => by
  rcases i with _ | i
  ·simp at h1 h2; subst h1 h2; exact .atom rfl
  ·simp at h1)
 rw [hb] at hb2; injection hb2 with hb2; subst hb2
 have ho : o < C.size := by simp at hfit; omega
 have : w' = w.setCell ⟨b.1, o, none⟩ (.int kk x) := by
  rw [hw]
  obtain ⟨fr, hB', _⟩ := hB.unf
  exact Zpx hB' ho
 rw [← this]
 exact ⟨hstep, hn⟩
theorem Zun (F : Fit P ext) {f n : Nat} (hx : ext f = some (.mark n)) {ι : Ren} {w : World} {s s' : St} {args args' : Array Value} {v : Value} (ha : VRs ι args args') (he : Emb P ι s.h.get w) (h : ZlT n args s = some (v, s')) :
  Res P ((callFunc f args').run P w) s ι w v s' := by
 obtain ⟨fn, hf, hb, hn, hk⟩ := F.mark f n hx
 have hname := F.go f fn hf
 unfold ZlT at h
 split at h
 ·rename_i hargs
  injection h with h; injection h with h1 h2; subst h1 h2
  have hA : args' = #[] := by
   have := ha.1
   rw [← Array.length_toList, hargs] at this
   exact Array.eq_empty_of_size_eq_zero this.symm
  rcases hk with ⟨_, m, hk⟩ | ⟨h, _⟩
  ·exact Res.same he (v' := .tuple #[]) (by rw [hA]; exact run_call_mark0 hf hname hb hn m hk w) (VR.of_free rfl)
  ·omega
 ·rename_i k o hargs
  injection h with h; injection h with h1 h2; subst h1 h2
  have hsz : args'.size = 1 := by rw [← ha.1, ← Array.length_toList, hargs]; rfl
  have h0 : args[0]? = some (.pointer (some ⟨k, o, none⟩)) := by
   have : args.toList[0]? = some (.pointer (some ⟨k, o, none⟩)) := by rw [hargs]; rfl
   simpa using this
  have hv := ha.2 0 _ args'[0] h0 (Array.getElem?_eq_getElem (by omega))
  obtain ⟨b, hb2, hp⟩ := hv.ptr_inv
  have hA : args' = #[.pointer (some ⟨b.1, o, none⟩)] := by
   apply Array.ext (by simpa using hsz)
   intro i h3 h4
   have : i = 0 := by omega
   subst this
   simpa using hp
  rcases hk with ⟨h, _⟩ | ⟨_, m, hk⟩
  ·omega
  ·exact Res.same he (v' := .tuple #[]) (by rw [hA]; exact run_call_marked hf hname hb hn m hk _ w) (VR.of_free rfl)
 ·cases h
theorem Zmj (F : Fit P ext) {f e : Nat} {kk : IntKind} (hx : ext f = some (.at kk e)) {ι : Ren} {w : World} {s s' : St} {args args' : Array Value} {v : Value} (ha : VRs ι args args') (he : Emb P ι s.h.get w) (ho : ∀ p ∈ s'.ob, p.1 = p.2) (h : ZdD kk e args s = some (v, s')) :
  Res P ((callFunc f args').run P w) s ι w v s' := by
 obtain ⟨fn, hf, hb, hn, hk⟩ := F.ext f kk e hx
 have hname := F.go f fn hf
 clear hx
 have get : ∀ {i : Nat} {x : Value}, args.toList[i]? = some x → ∃ y, args'[i]? = some y ∧ VR ι x y := fun {i x} hi => by
  have hi' : args[i]? = some x := by simpa using hi
  have hlt : i < args'.size := by rw [← ha.1]; exact (Array.getElem?_eq_some_iff.1 hi').1
  exact ⟨args'[i], Array.getElem?_eq_getElem hlt, ha.2 i x _ hi' (Array.getElem?_eq_getElem hlt)⟩
 have arr : ∀ {l : List Value}, args'.size = l.length → (∀ (i : Nat) (y : Value), l[i]? = some y → args'[i]? = some y) → args' = l.toArray := fun {l} h1 h2 => by
  apply Array.ext (by simpa using h1)
  intro i h3 h4
  have := h2 i l[i] (List.getElem?_eq_getElem (by simpa using h4))
  rw [Array.getElem?_eq_getElem h3] at this
  simpa using Option.some.inj this
 unfold ZdD at h
 split at h
 ·rename_i k o r hargs
  split at h
  ·rename_i ck vv hrow
   split at h
   ·rename_i hck
    subst hck
    obtain ⟨b, C, t, hbk, hB, hc, hz⟩ := ZwO he hrow
    obtain ⟨y0, hy0, hv0⟩ := get (i := 0) (by rw [hargs]; rfl)
    obtain ⟨b', hb', rfl⟩ := hv0.ptr_inv
    rw [hbk] at hb'; injection hb' with hb'; subst hb'
    have hsz : args'.size = r.length + 1 := by rw [← ha.1, ← Array.length_toList, hargs]; rfl
    split at h
    ·injection h with h; injection h with h1 h2; subst h1 h2
     have hA : args' = #[.pointer (some ⟨b.1, o, none⟩)] := arr (l := [_]) (by simpa using hsz) fun i y hi => by
      rcases i with _ | i
      ·simp at hi; subst hi; exact hy0
      ·simp at hi
     rcases hk with ⟨_, hk⟩ | ⟨h, _⟩ | ⟨h, _⟩ | ⟨h, _⟩ <;> try omega
     exact Res.same he (v' := .int ck vv) (by rw [hA]; exact run_call_load hf hname hb hn _ hk hc) (.atom rfl)
    ·rename_i xk x
     split at h
     ·rename_i hxk
      subst hxk
      split at h
      ·rename_i s1 hw
       injection h with h; injection h with h1 h2; subst h1 h2
       obtain ⟨y1, hy1, hv1⟩ := get (i := 1) (by rw [hargs]; rfl)
       have := hv1.int_inv
       subst this
       have hA : args' = #[.pointer (some ⟨b.1, o, none⟩), .int _ x] := arr (l := [_, _]) (by simpa using hsz) fun i y hi => by
        rcases i with _ | _ | i
        ·simp at hi; subst hi; exact hy0
        ·simp at hi; subst hi; exact hy1
        ·simp at hi
       rcases hk with ⟨h, _⟩ | ⟨_, hk⟩ | ⟨h, _⟩ | ⟨h, _⟩ <;> try omega
       obtain ⟨q1, q2⟩ := Zmi he hw hbk
       exact ⟨_, _, ι, .tuple #[], by rw [hA]; exact run_call_store hf hname hb hn hk hc hz, .inl rfl, q1, q2 ▸ Dom.refl, VR.of_free rfl⟩
      ·cases h
     ·cases h
    ·rename_i xk d
     split at h
     ·rename_i hxk
      subst hxk
      split at h
      ·rename_i s1 hw
       injection h with h; injection h with h1 h2; subst h1 h2
       obtain ⟨y1, hy1, hv1⟩ := get (i := 1) (by rw [hargs]; rfl)
       have := hv1.int_inv
       subst this
       have hA : args' = #[.pointer (some ⟨b.1, o, none⟩), .int _ d] := arr (l := [_, _]) (by simpa using hsz) fun i y hi => by
        rcases i with _ | _ | i
        ·simp at hi; subst hi; exact hy0
        ·simp at hi; subst hi; exact hy1
        ·simp at hi
       rcases hk with ⟨h, _⟩ | ⟨h, _⟩ | ⟨_, hk⟩ | ⟨h, _⟩ <;> try omega
       obtain ⟨q1, q2⟩ := Zmi he hw hbk
       exact ⟨_, _, ι, .int _ _, by rw [hA]; exact run_call_add hf hname hb hn _ hk hc hz (by simp [Op.intArith]), .inl rfl, q1, q2 ▸ Dom.refl, .atom rfl⟩
      ·cases h
     ·cases h
    ·rename_i xk x yk y
     split at h
     ·rename_i hxy
      obtain ⟨hxk, hyk⟩ := hxy
      subst hxk
      subst hyk
      obtain ⟨y1, hy1, hv1⟩ := get (i := 1) (by rw [hargs]; rfl)
      have := hv1.int_inv
      subst this
      obtain ⟨y2, hy2, hv2⟩ := get (i := 2) (by rw [hargs]; rfl)
      have := hv2.int_inv
      subst this
      have hA : args' = #[.pointer (some ⟨b.1, o, none⟩), .int _ x, .int _ y] := arr (l := [_, _, _]) (by simpa using hsz) fun i z hi => by
       rcases i with _ | _ | _ | i
       ·simp at hi; subst hi; exact hy0
       ·simp at hi; subst hi; exact hy1
       ·simp at hi; subst hi; exact hy2
       ·simp at hi
      rcases hk with ⟨h, _⟩ | ⟨h, _⟩ | ⟨h, _⟩ | ⟨_, hk⟩ <;> try omega
      split at h
      ·rename_i s1 hs
       split at h
       ·rename_i s2 hw
        injection h with h; injection h with h1 h2; subst h1 h2
        obtain ⟨e1, e2, e3⟩ := ZlX hs (Zai (Zbr hw).ob ho)
        have hvx : vv = x := by simpa using e1.symm
        subst hvx
        obtain ⟨q1, q2⟩ := Zmi (e2 ▸ he) hw hbk
        exact ⟨_, _, ι, .bool true, by rw [hA]; exact run_call_cas_hit hf hname hb hn _ hk hc hz, .inl rfl, e2 ▸ q1, (q2.trans e3) ▸ Dom.refl, .atom rfl⟩
       ·cases h
      ·rename_i s1 hs
       injection h with h; injection h with h1 h2; subst h1 h2
       obtain ⟨e1, e2, e3⟩ := ZlX hs ho
       have hvx : vv ≠ x := by simpa using e1.symm
       exact Res.heap (s := s1) (Res.same (e2 ▸ he) (v' := .bool false) (by rw [hA]; exact run_call_cas_miss hf hname hb hn _ hk hc hz hvx) (.atom rfl)) e2.symm e3.symm
     ·cases h
    ·cases h
   ·cases h
  ·cases h
 ·cases h
theorem Zuo {kk : IntKind} {e : Nat} {args : Array Value} {z : Int} {c' : List Value} {s s' : St} {v : Value} (hob : ∀ p ∈ s'.ob, p.1 = p.2) (h : Zie kk e args z c' s = some (v, s')) (hw : s.orc.w = s.orc.w) :
  ∃ s0 s1, ZdD kk e args s0 = some (v, s1) ∧ s0.h = s.h ∧ s0.n = s.n ∧ s'.h = s1.h ∧ s'.n = s1.n ∧ ∀ p ∈ s1.ob, p.1 = p.2 := by
 unfold Zie at h
 split at h
 ·rename_i k o r hargs
  split at h
  ·rename_i c t hk
   split at h
   ·injection h with h
    injection h with h1 h2
    subst h1 h2
    have q := Zab.1 (hob (_, true) List.mem_cons_self)
    refine ⟨s, s, ?_, rfl, rfl, rfl, rfl, fun p hp => hob p (List.mem_cons_of_mem _ hp)⟩
    unfold ZdD
    rw [hargs]
    simp only [rowAt, hk, q, if_true]
   ·rename_i xk x
    split at h
    ·rename_i hxk
     subst hxk
     injection h with h
     injection h with h1 h2
     subst h1 h2
     obtain ⟨q, q1, q2⟩ := Zab.1 (hob (_, true) List.mem_cons_self)
     refine ⟨s, s.putK k c' t, ?_, rfl, rfl, rfl, rfl, fun p hp => hob p (List.mem_cons_of_mem _ hp)⟩
     unfold ZdD
     rw [hargs]
     simp only [rowAt, hk, q, if_true, Zcx, List.length_cons, List.length_nil, Nat.zero_add, Nat.ble_eq_true_of_le q1, Z4, Za3, Bool.not_false, Bool.true_or, Bool.and_self, cond_true, q2]
    ·cases h
   ·rename_i xk d
    split at h
    ·rename_i hxk
     subst hxk
     injection h with h
     injection h with h1 h2
     subst h1 h2
     obtain ⟨q, q1, q2⟩ := Zab.1 (hob (_, true) List.mem_cons_self)
     refine ⟨s, s.putK k c' t, ?_, rfl, rfl, rfl, rfl, fun p hp => hob p (List.mem_cons_of_mem _ hp)⟩
     unfold ZdD
     rw [hargs]
     simp only [rowAt, hk, q, if_true, Zcx, List.length_cons, List.length_nil, Nat.zero_add, Nat.ble_eq_true_of_le q1, Z4, Za3, Bool.not_false, Bool.true_or, Bool.and_self, cond_true, q2]
    ·cases h
   ·rename_i xk x yk y
    split at h
    ·rename_i hxy
     obtain ⟨hxk, hyk⟩ := hxy
     subst hxk
     subst hyk
     generalize hs0 : s.told (dP (Z8 1 (c.drop o) = some [.int _ z])) = s0 at h
     have e0 : s0.h = s.h := by rw [← hs0]; rfl
     have en : s0.n = s.n := by rw [← hs0]; rfl
     have em : (dP (Z8 1 (c.drop o) = some [.int yk z]), true) ∈ s0.ob := by rw [← hs0]; exact List.mem_cons_self
     split at h
     ·rename_i s1 hs
      injection h with h
      injection h with h1 h2
      subst h1 h2
      have ho1 : ∀ p ∈ s1.ob, p.1 = p.2 := fun p hp => hob p (List.mem_cons_of_mem _ hp)
      obtain ⟨q1, q2⟩ := Zab.1 (hob (_, true) List.mem_cons_self)
      obtain ⟨e1, e2, e3⟩ := ZlX hs ho1
      have q := Zab.1 (ho1 (_, true) ((Zfg hs).ob.subset em))
      refine ⟨s0, s1.putK k c' t, ?_, e0, en, rfl, rfl, ho1⟩
      unfold ZdD
      rw [hargs]
      have hk1 : s1.h.get k = some (.cells c t) := by rw [e2, e0]; exact hk
      simp only [rowAt, e0, hk, q, and_self, if_true, hs, Zcx, hk1, List.length_cons, List.length_nil, Nat.zero_add, Nat.ble_eq_true_of_le q1, Z4, Za3, Bool.not_false, Bool.true_or, Bool.and_self, cond_true, q2]
     ·rename_i s1 hs
      injection h with h
      injection h with h1 h2
      subst h1 h2
      have q := Zab.1 (hob (_, true) ((Zfg hs).ob.subset em))
      refine ⟨s0, s1, ?_, e0, en, rfl, rfl, hob⟩
      unfold ZdD
      rw [hargs]
      simp only [rowAt, e0, hk, q, and_self, if_true, hs]
    ·cases h
   ·cases h
  ·cases h
 ·cases h
end
end Ev
end Go.Proofs.YtlbbiflodemagaaDoor
/- A region that draws its order: what is elsewhere stays, and which operations may change places. -/
namespace Go.Proofs.YtlbbiflodemagaaDoor
open Go.RowKit
namespace Ev
section
variable {P : Program} {ext : FuncId → Option Ext}

/-! ### What an operation turns -/
noncomputable def Dk (r : Rec) (k : Nat) : Bool := (r.w && Zkj k r.t) || (Nat.ble r.n0 k && Nat.blt k r.n1)
noncomputable def Kof (e : Ent) : AH := if e.r.small then (ZjU e.s.h (e.r.t ++ e.r.q)).get else (ZeO .nil e.r.q e.s.h).get
noncomputable def ZrF (e : Ent) : AH := fun k => if Dk e.r k then e.s'.h.get k else Kof e k
theorem ZgF {k : Nat} : ∀ {l : List Nat}, Zkj k l = true ↔ k ∈ l
 | [] => by simp [Zkj]
 | x :: l => by
  simp only [Zkj, Bool.or_eq_true, List.mem_cons, ZgF (l := l)]
  constructor
  ·rintro (h | h)
   ·exact .inl (Nat.eq_of_beq_eq_true h)
   ·exact .inr h
  ·rintro (h | h)
   ·exact .inl (Zhd h)
   ·exact .inr h
theorem Zpy {α : Type} {p : α → Bool} : ∀ {l : List α}, (∀ x ∈ l, p x = true) → Z4 p l = true
 | [], _ => rfl
 | x :: l, h => by simp [Z4, h x (by simp), Zpy (l := l) fun y hy => h y (by simp [hy])]
theorem ZcE {a b : List Nat} (h : ZgZ a b = true) {k : Nat} (ha : k ∈ a) (hb : k ∈ b) : False := by
 have := Zat h k ha
 rw [ZgF.2 hb] at this
 cases this
theorem Zfl {n0 n1 : Nat} {l : List Nat} (h : Zk6 n0 n1 l = true) {k : Nat} (hk : k ∈ l) (h1 : n0 ≤ k) (h2 : k < n1) : False := by
 have := Zat h k hk
 rw [Nat.ble_eq_true_of_le h1, show Nat.blt k n1 = true from Nat.ble_eq_true_of_le h2] at this
 cases this
theorem Ze1 {r : Rec} {k : Nat} : Dk r k = true ↔ (r.w = true ∧ k ∈ r.t) ∨ (r.n0 ≤ k ∧ k < r.n1) := by
 unfold Dk
 simp only [Bool.or_eq_true, Bool.and_eq_true, ZgF]
 constructor
 ·rintro (h | ⟨h1, h2⟩)
  ·exact .inl h
  ·exact .inr ⟨Nat.le_of_ble_eq_true h1, Nat.le_of_ble_eq_true h2⟩
 ·rintro (h | ⟨h1, h2⟩)
  ·exact .inl h
  ·exact .inr ⟨Nat.ble_eq_true_of_le h1, Nat.ble_eq_true_of_le h2⟩
structure Zo6 (r : Rec) : Prop where
 lt : ∀ k ∈ r.t, k < r.n0
 ltq : ∀ k ∈ r.q, k < r.n0
 le : r.n0 ≤ r.n1
 big : r.small = false → r.w = true
 qt : r.small = false → ∀ k ∈ r.t, k ∉ r.q
noncomputable def ZrG (a b : Rec) : Prop := (a.small = true → ∀ k ∈ a.t ++ a.q, Dk b k = false) ∧ (a.small = false → ∀ k, k < a.n0 → k ∉ a.q → Dk b k = false)
theorem Zta {a b : Rec} (h : Zow a b = true) (ha : Zo6 a) (hb : Zo6 b) (hab : a.n1 ≤ b.n0) : ZrG a b ∧ ZrG b a ∧ ∀ k, Dk a k = true → Dk b k = true → False := by
 have la := ha.le
 have lb := hb.le
 unfold Zow at h
 have nd : ∀ {r : Rec} {k : Nat}, ¬ ((r.w = true ∧ k ∈ r.t) ∨ (r.n0 ≤ k ∧ k < r.n1)) → Dk r k = false := fun {r k} hn => by
  cases hd : Dk r k
  ·rfl
  ·exact absurd (Ze1.1 hd) hn
 split at h
 ·rename_i h1 h2
  simp only [Bool.and_eq_true, Bool.or_eq_true] at h
  obtain ⟨⟨hw, hn⟩, ⟨hq1, hq2⟩, hnq⟩ := h
  have conf : ∀ k, k ∈ a.t → k ∈ b.t → a.w = true ∨ b.w = true → False := fun k k1 k2 k3 => by
   rcases hw with hw | hw
   ·rcases k3 with k3 | k3 <;> rw [k3] at hw <;> simp at hw
   ·exact ZcE hw k1 k2
  refine ⟨⟨fun _ k hk => nd ?_, fun e => absurd (h1.symm.trans e) (by decide)⟩, ⟨fun _ k hk => nd ?_, fun e => absurd (h2.symm.trans e) (by decide)⟩, fun k k1 k2 => ?_⟩
  ·rcases List.mem_append.1 hk with hk | hk
   ·rintro (⟨q1, q2⟩ | ⟨q1, q2⟩)
    ·exact conf k hk q2 (.inr q1)
    ·have := ha.lt k hk; omega
   ·rintro (⟨q1, q2⟩ | ⟨q1, q2⟩)
    ·rcases hq1 with h | h
     ·rw [q1] at h; simp at h
     ·exact ZcE h hk q2
    ·have := ha.ltq k hk; omega
  ·rcases List.mem_append.1 hk with hk | hk
   ·rintro (⟨q1, q2⟩ | ⟨q1, q2⟩)
    ·exact conf k q2 hk (.inl q1)
    ·exact Zfl hn hk q1 q2
   ·rintro (⟨q1, q2⟩ | ⟨q1, q2⟩)
    ·rcases hq2 with h | h
     ·rw [q1] at h; simp at h
     ·exact ZcE h q2 hk
    ·exact Zfl hnq hk q1 q2
  ·rcases Ze1.1 k1 with ⟨q1, q2⟩ | ⟨q1, q2⟩ <;> rcases Ze1.1 k2 with ⟨r1, r2⟩ | ⟨r1, r2⟩
   ·exact conf k q2 r2 (.inl q1)
   ·have := ha.lt k q2; omega
   ·exact Zfl hn r2 q1 q2
   ·omega
 ·rename_i h1 h2
  simp only [Bool.and_eq_true, Bool.not_eq_true', Bool.or_eq_true] at h
  obtain ⟨⟨⟨hw, hn⟩, hap⟩, haq⟩ := h
  have na : ∀ k, Dk a k = true → (k ∈ b.q ∧ a.n0 ≤ k ∧ k < a.n1 ∧ k ∉ b.t) := fun k hd => by
   rcases Ze1.1 hd with ⟨q1, q2⟩ | ⟨q1, q2⟩
   ·rw [hw] at q1; cases q1
   ·rcases hn with hn | ⟨⟨h3, h4⟩, h5⟩
    ·have := Nat.eq_of_beq_eq_true hn; omega
    ·have h4 := Nat.le_of_ble_eq_true h4
     obtain rfl : k = a.n0 := by omega
     exact ⟨ZgF.1 h3, q1, q2, fun hb => Zfl h5 hb q1 q2⟩
  have nb : ∀ k, k ∉ b.q → Dk a k = false := fun k hk => by
   cases hd : Dk a k
   ·rfl
   ·exact absurd (na k hd).1 hk
  refine ⟨⟨fun _ k hk => nd ?_, fun e => absurd (h1.symm.trans e) (by decide)⟩, ⟨fun e => absurd (h2.symm.trans e) (by decide), fun _ k _ hk => nb k hk⟩, fun k k1 k2 => ?_⟩
  rotate_left
  ·obtain ⟨_, q1, q2, q3⟩ := na k k1
   rcases Ze1.1 k2 with ⟨_, r2⟩ | ⟨r1, r2⟩
   ·exact q3 r2
   ·omega
  rcases List.mem_append.1 hk with hk | hk
  ·rintro (⟨q1, q2⟩ | ⟨q1, q2⟩)
   ·exact ZcE hap hk q2
   ·have := ha.lt k hk; omega
  ·rintro (⟨q1, q2⟩ | ⟨q1, q2⟩)
   ·exact ZcE haq hk q2
   ·have := ha.ltq k hk; omega
 ·rename_i h1 h2
  simp only [Bool.and_eq_true, Bool.not_eq_true'] at h
  obtain ⟨⟨⟨hw, hap⟩, hn⟩, haq, hnq⟩ := h
  refine ⟨⟨fun e => absurd (h1.symm.trans e) (by decide), fun _ k hk _ => nd ?_⟩, ⟨fun _ k hk => nd ?_, fun e => absurd (h2.symm.trans e) (by decide)⟩, fun k k1 k2 => ?_⟩
  ·rintro (⟨q1, q2⟩ | ⟨q1, q2⟩)
   ·rw [hw] at q1; cases q1
   ·omega
  ·rcases List.mem_append.1 hk with hk | hk
   ·rintro (⟨q1, q2⟩ | ⟨q1, q2⟩)
    ·exact ZcE hap q2 hk
    ·exact Zfl hn hk q1 q2
   ·rintro (⟨q1, q2⟩ | ⟨q1, q2⟩)
    ·exact ZcE haq q2 hk
    ·exact Zfl hnq hk q1 q2
  ·rcases Ze1.1 k2 with ⟨r1, r2⟩ | ⟨r1, r2⟩
   ·rw [hw] at r1; cases r1
   ·rcases Ze1.1 k1 with ⟨q1, q2⟩ | ⟨q1, q2⟩
    ·have := ha.lt k q2; omega
    ·omega
 ·cases h
end
end Ev
end Go.Proofs.YtlbbiflodemagaaDoor
/- A region that draws its order: what the run in the text's order tells. -/
namespace Go.Proofs.YtlbbiflodemagaaDoor
open Go.RowKit
namespace Ev
section
variable {P : Program} {ext : FuncId → Option Ext}

structure EntOk (P : Program) (ext : FuncId → Option Ext) (nt fu : Nat) (ops : Array Oper) (before : List Ent) (T T' : Tr Value) (s s' : St) (e : Ent) : Prop where
 eT : e.T = T
 eT' : T' = Zcr T e.o.dst e.v
 es' : s' = e.s'
 dst : ZdL nt e.o.dst = true
 good : Z4 Zew e.o.op.operands.toList = true
 edges : Zk7 before.length e.o.after.toList = true
 em : e.m = Zc6 before e.o.after.toList
 pairs : Zje ops e.o e.r e.m 0 before = true
 run : ∃ b, ZdS ops T e.o s = some (b, e.s) ∧ (b = true → ∃ fu', fu' < fu ∧ ∃ xs, ZiR P ext fu' xs (opnd (ZmM T (Zha e.o.op.operands.toList))) e.o e.s = some (e.v, e.s', e.r)) ∧ (b = false → e.v = undef ∧ e.s' = e.s ∧ e.r = Zi6 e.s)
theorem EntOk.fuel {nt fu fu1 : Nat} {ops : Array Oper} {before : List Ent} {T T' : Tr Value} {s s' : St} {e : Ent} (h : EntOk P ext nt fu ops before T T' s s' e) (hf : fu ≤ fu1) : EntOk P ext nt fu1 ops before T T' s s' e :=
 ⟨h.eT, h.eT', h.es', h.dst, h.good, h.edges, h.em, h.pairs, by
  obtain ⟨b, h1, h2, h3⟩ := h.run
  exact ⟨b, h1, fun hb => (by obtain ⟨fu', h4, h5⟩ := h2 hb; exact ⟨fu', Nat.lt_of_lt_of_le h4 hf, h5⟩), h3⟩⟩
theorem Zo7 (nt : Nat) (ops : Array Oper) : ∀ (fu : Nat) (l : List Oper) (done : List Ent) (T : Tr Value) (s : St) (es : List Ent) (T' : Tr Value) (s' : St), ZdX P ext nt fu ops done l T s = some (es, T', s') →
  ∃ (es2 : List Ent) (σ : Nat → St) (τ : Nat → Tr Value), es = done ++ es2 ∧ es2.map (·.o) = l ∧ σ 0 = s ∧ τ 0 = T ∧ σ l.length = s' ∧ τ l.length = T' ∧
   ∀ (i : Nat) (e : Ent), es2[i]? = some e → EntOk P ext nt fu ops (done ++ es2.take i) (τ i) (τ (i + 1)) (σ i) (σ (i + 1)) e
 | 0, _, _, _, _, _, _, _, h => by simp [ZdX, St.keep_eq] at h
 | fu + 1, [], done, T, s, es, T', s', h => by
  simp only [ZdX, St.keep_eq] at h
  injection h with h
  simp only [Prod.mk.injEq] at h
  obtain ⟨rfl, rfl, rfl⟩ := h
  exact ⟨[], fun _ => s, fun _ => T, by simp, rfl, rfl, rfl, rfl, rfl, fun i e hi => by simp at hi⟩
 | fu + 1, o :: l, done, T, s, es, T', s', h => by
  simp only [ZdX, St.keep_eq] at h
  obtain ⟨hg, h⟩ := Zn h
  simp only [Bool.and_eq_true] at hg
  have go : ∀ (e1 : Ent), EntOk P ext nt (fu + 1) ops done T (Zcr T e1.o.dst e1.v) s e1.s' e1 → e1.o = o → ZdX P ext nt fu ops (done ++ [e1]) l (Zcr T e1.o.dst e1.v) e1.s' = some (es, T', s') →
    ∃ (es2 : List Ent) (σ : Nat → St) (τ : Nat → Tr Value), es = done ++ es2 ∧ es2.map (·.o) = o :: l ∧ σ 0 = s ∧ τ 0 = T ∧ σ (o :: l).length = s' ∧ τ (o :: l).length = T' ∧
     ∀ (i : Nat) (e : Ent), es2[i]? = some e → EntOk P ext nt (fu + 1) ops (done ++ es2.take i) (τ i) (τ (i + 1)) (σ i) (σ (i + 1)) e := fun e1 hok ho hrec => by
   obtain ⟨es2, σ, τ, h1, h2, h3, h4, h5, h6, h7⟩ := Zo7 nt ops fu l _ _ _ es T' s' hrec
   refine ⟨e1 :: es2, fun i => match i with | 0 => s | i + 1 => σ i, fun i => match i with | 0 => T | i + 1 => τ i, by rw [h1]; simp, by simp [h2, ho], rfl, rfl, by simpa using h5, by simpa using h6, fun i e hi => ?_⟩
   cases i with
   | zero =>
    simp at hi
    subst hi
    simp only [List.take_zero, List.append_nil, h3, h4]
    exact hok
   | succ i =>
    have := (h7 i e (by simpa using hi)).fuel (Nat.le_succ fu)
    simpa using this
  split at h
  ·rename_i s1 hw
   split at h
   ·rename_i v s2 r hv
    obtain ⟨hp, h⟩ := Zn h
    exact go ⟨o, Zc6 done o.after.toList, r, T, s1, v, s2⟩ ⟨rfl, rfl, rfl, hg.1.1, hg.1.2, hg.2, rfl, hp, true, hw, fun _ => ⟨fu, Nat.lt_succ_self _, _, hv⟩, (fun e => by cases e)⟩ rfl h
   ·cases h
  ·rename_i s1 hw
   obtain ⟨hp, h⟩ := Zn h
   exact go ⟨o, Zc6 done o.after.toList, Zi6 s1, T, s1, undef, s1⟩ ⟨rfl, rfl, rfl, hg.1.1, hg.1.2, hg.2, rfl, hp, false, hw, (fun e => by cases e), fun _ => ⟨rfl, rfl, rfl⟩⟩ rfl h
  ·cases h

/-! ### Which operations stand ahead -/
theorem Zmk {i : Nat} : ∀ {l : List Edge}, Zk7 i l = true → ∀ e ∈ l, Region.binds .any e = true → e.on < i
 | [], _, e, he => by cases he
 | d :: l, h, e, he => by
  simp only [Zk7, Bool.and_eq_true, Bool.or_eq_true, Bool.not_eq_true'] at h
  rcases List.mem_cons.1 he with rfl | he
  ·intro hb
   rcases h.1 with h1 | h1
   ·rw [hb] at h1; cases h1
   ·exact Nat.le_of_ble_eq_true h1
  ·exact Zmk h.2 e he
theorem Zkl {before : List Ent} {j : Nat} : ∀ {l : List Edge}, (Zc6 before l).testBit j = true → ∃ e ∈ l, Region.binds .any e = true ∧ (e.on = j ∨ ∃ d, before[e.on]? = some d ∧ d.m.testBit j = true)
 | [], h => by simp [Zc6] at h
 | d :: l, h => by
  simp only [Zc6] at h
  cases hb : Region.binds .any d with
  | false =>
   rw [hb] at h
   obtain ⟨e, h1, h2⟩ := Zkl (l := l) (by simpa using h)
   exact ⟨e, List.mem_cons_of_mem _ h1, h2⟩
  | true =>
   rw [hb] at h
   simp only [cond_true, Nat.testBit_or, Bool.or_eq_true] at h
   rcases h with (h | h) | h
   ·rw [Nat.testBit_two_pow] at h
    exact ⟨d, by simp, hb, .inl (by simpa using h)⟩
   ·refine ⟨d, by simp, hb, .inr ?_⟩
    split at h
    ·exact ⟨_, by assumption, h⟩
    ·simp at h
   ·obtain ⟨e, h1, h2⟩ := Zkl (l := l) h
    exact ⟨e, List.mem_cons_of_mem _ h1, h2⟩
theorem Zml {ops : Array Oper} {o : Oper} {r : Rec} {m : Nat} : ∀ {l : List Ent} {j : Nat}, Zje ops o r m j l = true → ∀ (i : Nat) (d : Ent), l[i]? = some d → m.testBit (j + i) = true ∨ (Oper.apart ops d.o o = true ∧ Zow d.r r = true)
 | [], j, _, i, d, hd => by simp at hd
 | x :: l, j, h, i, d, hd => by
  simp only [Zje, Bool.and_eq_true, Bool.or_eq_true] at h
  cases i with
  | zero =>
   simp at hd
   subst hd
   rcases h.1 with h1 | h1
   ·exact .inl (by simpa using h1)
   ·exact .inr h1
  | succ i =>
   have := Zml h.2 i d (by simpa using hd)
   rwa [show j + 1 + i = j + (i + 1) by omega] at this
def Zpz (es : List Ent) (L : Nat → Bool) : Prop := ∀ (i : Nat) (e : Ent), es[i]? = some e → L i = true → ∀ d ∈ e.o.after.toList, Region.binds .any d = true → L d.on = true
theorem Zn4 {es : List Ent} {L : Nat → Bool} (hc : Zpz es L) (hm : ∀ (i : Nat) (e : Ent), es[i]? = some e → e.m = Zc6 (es.take i) e.o.after.toList) {j : Nat} :
  ∀ (i : Nat) (e : Ent), es[i]? = some e → (∀ d ∈ e.o.after.toList, Region.binds .any d = true → L d.on = true) → e.m.testBit j = true → L j = true := by
 intro i
 induction i using Nat.strongRecOn with
 | _ i ih =>
  intro e he hr hb
  rw [hm i e he] at hb
  obtain ⟨d, hd, hbd, h1 | ⟨x, hx, hxb⟩⟩ := Zkl hb
  ·rw [← h1]; exact hr d hd hbd
  ·have hlt : d.on < i := by
    have := (List.getElem?_eq_some_iff.1 hx).1
    rw [List.length_take] at this
    omega
   rw [List.getElem?_take_of_lt hlt] at hx
   exact ih d.on hlt x hx (hc d.on x hx (hr d hd hbd)) hxb
end
end Ev
end Go.Proofs.YtlbbiflodemagaaDoor
/- A region that draws its order: in whatever order its edges allow. -/
namespace Go.Proofs.YtlbbiflodemagaaDoor
open Go.RowKit
namespace Ev
section
variable {β : Type}
noncomputable def ovf (L D : Nat → Bool) (V : Nat → β) (x0 : β) : Nat → β
  | 0 => x0
  | p + 1 => if L p && D p then V p else ovf L D V x0 p
noncomputable def ZcU (L : Nat → Bool) (i : Nat) : Nat → Bool := fun j => if j = i then true else L j
theorem ZjY {L D : Nat → Bool} {V S : Nat → β} (i n : Nat) (hi : i ≤ n) (hS : ∀ p, p < n → S (p + 1) = if D p then V p else S p) (h1 : ∀ p, p < i → L p = false → D p = false) (h2 : ∀ p, i ≤ p → p < n → L p = true → D p = false) :
    ovf L D V (S 0) n = S i := by
  have A : ∀ p, p ≤ i → ovf L D V (S 0) p = S p := by
    intro p
    induction p with
    | zero => intro _; rfl
    | succ p ih =>
      intro hp
      rw [ovf, ih (by omega), hS p (by omega)]
      cases hL : L p with
      | true => simp
      | false => rw [h1 p (by omega) hL]; simp
  have B : ∀ p, i ≤ p → p ≤ n → ovf L D V (S 0) p = S i := by
    intro p
    induction p with
    | zero => intro h _; obtain rfl : i = 0 := by omega
              rfl
    | succ p ih =>
      intro h hp
      by_cases he : i = p + 1
      · rw [he]; exact A (p + 1) (by omega)
      · rw [ovf, ih (by omega) (by omega)]
        cases hL : L p with
        | true => rw [h2 p (by omega) (by omega) hL]; simp
        | false => simp
  exact B n hi (Nat.le_refl _)
theorem Ztw {L D : Nat → Bool} {V : Nat → β} {x0 : β} (i n : Nat) (hi : i < n) (hL : L i = false) (h : ∀ p, i < p → p < n → L p = true → D p = true → D i = false) :
    ovf (ZcU L i) D V x0 n = if D i then V i else ovf L D V x0 n := by
  have A : ∀ p, p ≤ i → ovf (ZcU L i) D V x0 p = ovf L D V x0 p := by
    intro p
    induction p with
    | zero => intro _; rfl
    | succ p ih =>
      intro hp
      rw [ovf, ovf, ih (by omega)]
      have : ZcU L i p = L p := by unfold ZcU; rw [if_neg (by omega)]
      rw [this]
  have B : ∀ p, i < p → p ≤ n → ovf (ZcU L i) D V x0 p = if D i then V i else ovf L D V x0 p := by
    intro p
    induction p with
    | zero => intro h _; omega
    | succ p ih =>
      intro hp hn
      by_cases he : p = i
      · subst he
        rw [ovf, ovf, A p (Nat.le_refl _), hL]
        have : ZcU L p p = true := by simp [ZcU]
        rw [this]
        simp
      · rw [ovf, ovf, ih (by omega) (by omega)]
        have : ZcU L i p = L p := by unfold ZcU; rw [if_neg he]
        rw [this]
        cases hLp : L p with
        | false => simp
        | true =>
          cases hD : D p with
          | false => simp
          | true => rw [h p (by omega) (by omega) hLp hD]; simp
  exact B n hi (Nat.le_refl _)
end
section
variable {P : Program} {ext : FuncId → Option Ext}

noncomputable def Zkm (es : List Ent) (k p : Nat) : Bool := match es[p]? with | some e => Dk e.r k | none => false
noncomputable def ZrH (es : List Ent) (k p : Nat) : Option AObj := match es[p]? with | some e => e.s'.h.get k | none => none
noncomputable def HL (es : List Ent) (L : Nat → Bool) (s : St) : AH := fun k => ovf L (Zkm es k) (ZrH es k) (s.h.get k) es.length
noncomputable def Zmm (es : List Ent) (t p : Nat) : Bool := match es[p]? with | some e => e.o.dst == some t | none => false
noncomputable def ZrI (es : List Ent) (p : Nat) : Option Value := match es[p]? with | some e => some e.v | none => none
noncomputable def TL (es : List Ent) (L : Nat → Bool) (T : Tr Value) : Nat → Option Value := fun t => ovf L (Zmm es t) (ZrI es) (T.get t) es.length
structure Ctx (P : Program) (ext : FuncId → Option Ext) (nt fu : Nat) (ops : Array Oper) (es : List Ent) (σ : Nat → St) (τ : Nat → Tr Value) : Prop where
  len : es.length = ops.size
  op : ∀ (i : Nat) (e : Ent), es[i]? = some e → ops[i]? = some e.o
  ok : ∀ (i : Nat) (e : Ent), es[i]? = some e → EntOk P ext nt fu ops (es.take i) (τ i) (τ (i + 1)) (σ i) (σ (i + 1)) e
  rok : ∀ (i : Nat) (e : Ent), es[i]? = some e → Zo6 e.r ∧ e.r.n0 = (σ i).n ∧ e.r.n1 = (σ (i + 1)).n ∧ (∀ k, Dk e.r k = false → (σ (i + 1)).h.get k = (σ i).h.get k) ∧ e.s.h = (σ i).h
  old : ∀ k, ((σ 0).h.get k).isSome → ¬ ((σ 0).n ≤ k ∧ k < (σ es.length).n)
  sem : ∀ (i : Nat) (e : Ent), es[i]? = some e → ∀ (ι : Ren) (w : World) (a : Act) (K : Act → World → Prop) (Q : Exit → Act → World → Prop), (∀ t ∈ e.o.looksAt ops, VR ι (((τ i).get t).getD undef) (a.tmps.getD t undef)) → Emb P ι (Kof e) w → Fresh ι (σ i).n (σ (i + 1)).n →
    (∀ v' w' ι', Step P ι (Kof e) w ι' (ZrF e) w' → Dom ι ι' (σ i).n (σ (i + 1)).n → VR ι' e.v v' → K (a.put e.o.dst v') w') → wpOp P ops Q i K a w
variable {nt fu : Nat} {ops : Array Oper} {es : List Ent} {σ : Nat → St} {τ : Nat → Tr Value}
theorem Ctx.get (C : Ctx P ext nt fu ops es σ τ) {i : Nat} (hi : i < es.length) : ∃ e, es[i]? = some e := ⟨_, List.getElem?_eq_getElem hi⟩
theorem Ctx.mono (C : Ctx P ext nt fu ops es σ τ) : ∀ {i j : Nat}, i ≤ j → j ≤ es.length → (σ i).n ≤ (σ j).n := by
  intro i j
  induction j with
  | zero => intro h _; obtain rfl : i = 0 := by omega
            exact Nat.le_refl _
  | succ j ih =>
    intro h hj
    by_cases he : i = j + 1
    · subst he; exact Nat.le_refl _
    · obtain ⟨e, hee⟩ := C.get (i := j) (by omega)
      obtain ⟨r1, r2, r3, _⟩ := C.rok j e hee
      have := r1.le
      exact Nat.le_trans (ih (by omega) (by omega)) (by omega)
theorem Ctx.chainH (C : Ctx P ext nt fu ops es σ τ) (k p : Nat) (hp : p < es.length) : (σ (p + 1)).h.get k = if Zkm es k p then ZrH es k p else (σ p).h.get k := by
  obtain ⟨e, he⟩ := C.get hp
  obtain ⟨_, _, _, r4, _⟩ := C.rok p e he
  have hs := (C.ok p e he).es'
  unfold Zkm ZrH
  rw [he]
  simp only
  cases hd : Dk e.r k with
  | true => simp [hs]
  | false => simpa using r4 k hd
theorem Ctx.chainT (C : Ctx P ext nt fu ops es σ τ) (t p : Nat) (hp : p < es.length) : (τ (p + 1)).get t = if Zmm es t p then ZrI es p else (τ p).get t := by
  obtain ⟨e, he⟩ := C.get hp
  have hs := (C.ok p e he).eT'
  unfold Zmm ZrI
  rw [he, hs]
  simp only
  cases hd : e.o.dst with
  | none => simp [Zcr]
  | some d =>
    simp only [Zcr, Tr.get_set]
    by_cases ht : t = d
    · subst ht; simp [Zw]
    · rw [Zm ht]
      have : ((some d : Option Nat) == some t) = false := by simpa using fun e => ht e.symm
      rw [this]
      simp
theorem Ctx.dk_lt (C : Ctx P ext nt fu ops es σ τ) {p k : Nat} {e : Ent} (he : es[p]? = some e) (hd : Dk e.r k = true) : k < (σ (p + 1)).n := by
  obtain ⟨r1, r2, r3, _⟩ := C.rok p e he
  rcases Ze1.1 hd with ⟨_, h⟩ | ⟨_, h⟩
  · have := r1.lt k h; have := r1.le; omega
  · omega
theorem Ctx.pair (C : Ctx P ext nt fu ops es σ τ) {i j : Nat} {d e : Ent} (hij : i < j) (hd : es[i]? = some d) (he : es[j]? = some e) : e.m.testBit i = true ∨ (Oper.apart ops d.o e.o = true ∧ ZrG d.r e.r ∧ ZrG e.r d.r ∧ ∀ k, Dk d.r k = true → Dk e.r k = true → False) := by
  have hj : j < es.length := (List.getElem?_eq_some_iff.1 he).1
  rcases Zml (C.ok j e he).pairs i d (by rw [List.getElem?_take_of_lt hij]; exact hd) with h | ⟨h1, h2⟩
  · exact .inl (by simpa using h)
  · obtain ⟨r1, r2, r3, _⟩ := C.rok i d hd
    obtain ⟨q1, q2, q3, _⟩ := C.rok j e he
    exact .inr ⟨h1, Zta h2 r1 q1 (by rw [r3, q2]; exact C.mono (by omega) (by omega))⟩
structure ZmN (es : List Ent) (L : Nat → Bool) (i : Nat) (e : Ent) : Prop where
  at_ : es[i]? = some e
  cl : Zpz es L
  not : L i = false
  deps : ∀ d ∈ e.o.after.toList, Region.binds .any d = true → L d.on = true
theorem Ctx.masks (C : Ctx P ext nt fu ops es σ τ) : ∀ (i : Nat) (e : Ent), es[i]? = some e → e.m = Zc6 (es.take i) e.o.after.toList := fun i e he => (C.ok i e he).em
theorem Ctx.loose (C : Ctx P ext nt fu ops es σ τ) {L : Nat → Bool} {i j : Nat} {e d : Ent} (R : ZmN es L i e) (hd : es[j]? = some d) (hne : j < i ∧ L j = false ∨ i < j ∧ L j = true) :
    (∀ t, d.o.dst = some t → t ∉ e.o.looksAt ops) ∧ (∀ t, d.o.dst = some t → e.o.dst ≠ some t) ∧ ZrG e.r d.r ∧ ∀ k, Dk d.r k = true → Dk e.r k = true → False := by
  rcases hne with ⟨h1, h2⟩ | ⟨h1, h2⟩
  · rcases C.pair h1 hd R.at_ with h | ⟨g1, g2, g3, g4⟩
    · have := Zn4 R.cl C.masks i e R.at_ R.deps h
      rw [h2] at this; cases this
    · obtain ⟨a1, a2, a3⟩ := Oper.apart_spec g1
      exact ⟨a1, a2, g3, g4⟩
  · rcases C.pair h1 R.at_ hd with h | ⟨g1, g2, g3, g4⟩
    · have := Zn4 R.cl C.masks j d hd (R.cl j d hd h2) h
      rw [R.not] at this; cases this
    · obtain ⟨a1, a2, a3⟩ := Oper.apart_spec g1
      exact ⟨a3, fun t ht he => a2 t he ht, g2, fun k k1 k2 => g4 k k2 k1⟩
theorem Ctx.live (C : Ctx P ext nt fu ops es σ τ) : ∀ (i : Nat), i ≤ es.length → ∀ k, ((σ i).h.get k).isSome → ¬ ((σ i).n ≤ k ∧ k < (σ es.length).n) := by
  intro i
  induction i with
  | zero => intro _ k hk; exact C.old k hk
  | succ i ih =>
    intro hi k hk
    obtain ⟨e, he⟩ := C.get (i := i) (by omega)
    rw [C.chainH k i (by omega)] at hk
    have hd : Zkm es k i = Dk e.r k := by unfold Zkm; rw [he]
    rw [hd] at hk
    cases hdk : Dk e.r k with
    | true => have := C.dk_lt he hdk; omega
    | false =>
      rw [hdk] at hk
      have := ih (by omega) k (by simpa using hk)
      have := C.mono (i := i) (j := i + 1) (by omega) hi
      omega
theorem Ctx.agreeH (C : Ctx P ext nt fu ops es σ τ) {L : Nat → Bool} {i : Nat} {e : Ent} (R : ZmN es L i e) (k : Nat) (h1 : e.r.small = true → k ∈ e.r.t ++ e.r.q) (h2 : e.r.small = false → ¬ ((σ i).n ≤ k ∧ k < (σ es.length).n)) (h3 : e.r.small = false → k ∉ e.r.q) : HL es L (σ 0) k = (σ i).h.get k := by
  have hi : i < es.length := (List.getElem?_eq_some_iff.1 R.at_).1
  have key : ∀ p, p < es.length → (p < i ∧ L p = false ∨ i < p ∧ L p = true) → Zkm es k p = false := fun p hp hh => by
    obtain ⟨d, hd⟩ := C.get hp
    obtain ⟨_, _, g3, _⟩ := C.loose R hd hh
    unfold Zkm
    rw [hd]
    simp only
    cases hs : e.r.small with
    | true => exact g3.1 hs k (h1 hs)
    | false =>
      by_cases hk : k < e.r.n0
      · exact g3.2 hs k hk (h3 hs)
      · cases hdk : Dk d.r k with
        | false => rfl
        | true =>
          exfalso
          have q := C.dk_lt hd hdk
          have := C.mono (i := p + 1) (j := es.length) (by omega) (Nat.le_refl _)
          have := (C.rok i e R.at_).2.1
          exact h2 hs ⟨by omega, by omega⟩
  exact ZjY (S := fun p => (σ p).h.get k) i es.length (by omega) (fun p hp => C.chainH k p hp) (fun p hp hL => key p (by omega) (.inl ⟨hp, hL⟩)) (fun p hp hn hL => by
    by_cases he : p = i
    · subst he; rw [R.not] at hL; cases hL
    · exact key p hn (.inr ⟨by omega, hL⟩))
theorem Ctx.agreeT (C : Ctx P ext nt fu ops es σ τ) {L : Nat → Bool} {i : Nat} {e : Ent} (R : ZmN es L i e) (t : Nat) (ht : t ∈ e.o.looksAt ops) : TL es L (τ 0) t = (τ i).get t := by
  have hi : i < es.length := (List.getElem?_eq_some_iff.1 R.at_).1
  have key : ∀ p, p < es.length → (p < i ∧ L p = false ∨ i < p ∧ L p = true) → Zmm es t p = false := fun p hp hh => by
    obtain ⟨d, hd⟩ := C.get hp
    obtain ⟨g1, _⟩ := C.loose R hd hh
    unfold Zmm
    rw [hd]
    simp only
    cases hb : d.o.dst == some t with
    | false => rfl
    | true => exact absurd ht (g1 t (by simpa using hb))
  exact ZjY (S := fun p => (τ p).get t) i es.length (by omega) (fun p hp => C.chainT t p hp) (fun p hp hL => key p (by omega) (.inl ⟨hp, hL⟩)) (fun p hp hn hL => by
    by_cases he : p = i
    · subst he; rw [R.not] at hL; cases hL
    · exact key p hn (.inr ⟨by omega, hL⟩))
theorem Ctx.addH (C : Ctx P ext nt fu ops es σ τ) {L : Nat → Bool} {i : Nat} {e : Ent} (R : ZmN es L i e) (k : Nat) : HL es (ZcU L i) (σ 0) k = if Dk e.r k then e.s'.h.get k else HL es L (σ 0) k := by
  have hi : i < es.length := (List.getElem?_eq_some_iff.1 R.at_).1
  have := Ztw (D := Zkm es k) (V := ZrH es k) (x0 := (σ 0).h.get k) i es.length hi R.not fun p hp hn hL hD => by
    obtain ⟨d, hd⟩ := C.get hn
    obtain ⟨_, _, _, g4⟩ := C.loose R hd (.inr ⟨hp, hL⟩)
    unfold Zkm at hD ⊢
    rw [hd] at hD
    rw [R.at_]
    simp only at hD ⊢
    cases hdk : Dk e.r k with
    | false => rfl
    | true => exact (g4 k hD hdk).elim
  unfold HL
  rw [this]
  unfold Zkm ZrH
  rw [R.at_]
theorem Ctx.addT (C : Ctx P ext nt fu ops es σ τ) {L : Nat → Bool} {i : Nat} {e : Ent} (R : ZmN es L i e) (t : Nat) : TL es (ZcU L i) (τ 0) t = if e.o.dst = some t then some e.v else TL es L (τ 0) t := by
  have hi : i < es.length := (List.getElem?_eq_some_iff.1 R.at_).1
  have := Ztw (D := Zmm es t) (V := ZrI es) (x0 := (τ 0).get t) i es.length hi R.not fun p hp hn hL hD => by
    obtain ⟨d, hd⟩ := C.get hn
    obtain ⟨_, g2, _⟩ := C.loose R hd (.inr ⟨hp, hL⟩)
    unfold Zmm at hD ⊢
    rw [hd] at hD
    rw [R.at_]
    simp only at hD ⊢
    cases hdk : e.o.dst == some t with
    | false => rfl
    | true => exact absurd (by simpa using hdk) (g2 t (by simpa using hD))
  unfold TL
  rw [this]
  unfold Zmm ZrI
  rw [R.at_]
  simp only
  by_cases hb : e.o.dst = some t
  · simp [hb]
  · have : (e.o.dst == some t) = false := by simpa using hb
    rw [this, if_neg hb]
    simp
end
end Ev
end Go.Proofs.YtlbbiflodemagaaDoor
/- A region that draws its order: any order comes to the same. -/
namespace Go.Proofs.YtlbbiflodemagaaDoor
open Go.RowKit
namespace Ev
section
variable {P : Program} {ext : FuncId → Option Ext}

theorem Zmn {ops : Array Oper} {listed : Array Bool} (hs : listed.size = ops.size) {i : Nat} : i ∈ Region.ready .any ops listed ↔ ∃ o, ops[i]? = some o ∧ listed.getD i false = false ∧ ∀ d ∈ o.after.toList, Region.binds .any d = true → listed.getD d.on false = true := by
 unfold Region.ready
 rw [List.mem_filter]
 simp only [List.mem_range, Bool.and_eq_true, Bool.not_eq_true']
 constructor
 ·rintro ⟨hi, h1, h2⟩
  have ho : ops[i]? = some ops[i] := Array.getElem?_eq_getElem hi
  rw [ho] at h2
  simp only [Option.map_some, Option.getD_some, Array.all_eq_true', Bool.or_eq_true, Bool.not_eq_true'] at h2
  refine ⟨ops[i], ho, ?_, fun d hd hb => ?_⟩
  ·have hl : i < listed.size := by omega
   simpa [Array.getD, hl] using h1
  ·rcases h2 d (by simpa using hd) with h | h
   ·rw [hb] at h; cases h
   ·exact h
 ·rintro ⟨o, ho, h1, h2⟩
  have hi : i < ops.size := (Array.getElem?_eq_some_iff.1 ho).1
  have hl : i < listed.size := by omega
  refine ⟨hi, by simpa [Array.getD, hl] using h1, ?_⟩
  rw [ho]
  simp only [Option.map_some, Option.getD_some, Array.all_eq_true', Bool.or_eq_true, Bool.not_eq_true']
  intro d hd
  cases hb : Region.binds .any d with
  | false => exact .inl rfl
  | true => exact .inr (h2 d (by simpa using hd) hb)
def cnt (L : Nat → Bool) : Nat → Nat
 | 0 => 0
 | p + 1 => cnt L p + if L p then 0 else 1
theorem Ztx {L : Nat → Bool} {i : Nat} (hL : L i = false) : ∀ p, (p ≤ i → cnt (ZcU L i) p = cnt L p) ∧ (i < p → cnt (ZcU L i) p + 1 = cnt L p)
 | 0 => ⟨fun _ => rfl, fun h => by omega⟩
 | p + 1 => by
  obtain ⟨h1, h2⟩ := Ztx hL p
  refine ⟨fun h => ?_, fun h => ?_⟩
  ·have : ZcU L i p = L p := by unfold ZcU; rw [if_neg (by omega)]
   rw [cnt, cnt, h1 (by omega), this]
  ·by_cases he : p = i
   ·subst he
    have : ZcU L p p = true := by simp [ZcU]
    rw [cnt, cnt, h1 (Nat.le_refl _), this, hL]
    simp
   ·have : ZcU L i p = L p := by unfold ZcU; rw [if_neg he]
    rw [cnt, cnt, this]
    have := h2 (by omega)
    omega
theorem ZrJ {L : Nat → Bool} : ∀ p, cnt L p = 0 → ∀ j, j < p → L j = true
 | 0, _, j, hj => by omega
 | p + 1, h, j, hj => by
  rw [cnt] at h
  by_cases he : j = p
  ·subst he
   cases hL : L j with
   | true => rfl
   | false => rw [hL] at h; simp at h
  ·exact ZrJ p (by omega) j (by omega)
theorem ZnN {a : Act} {dst : Option Tmp} {nt : Nat} (hs : a.tmps.size = nt) (hd : ZdL nt dst = true) (v : Value) (t : Nat) : (a.put dst v).tmps.getD t undef = if dst = some t then v else a.tmps.getD t undef := by
 cases dst with
 | none => simp [Act.put]
 | some d =>
  have hlt : d < a.tmps.size := by rw [hs]; simpa [ZdL, Nat.blt_eq] using hd
  simp only [Act.put]
  by_cases ht : d = t
  ·subst ht
   simp [Array.getD, hlt]
  ·have : ¬ (some d = some t) := by simpa using ht
   rw [if_neg this]
   simp [Array.getD_eq_getD_getElem?, Array.getElem?_setIfInBounds_ne ht]
variable {nt fu : Nat} {ops : Array Oper} {es : List Ent} {σ : Nat → St} {τ : Nat → Tr Value}
structure Inv (P : Program) (nt : Nat) (D : List Deferred) (es : List Ent) (σ : Nat → St) (τ : Nat → Tr Value) (ι0 : Ren) (w0 : World) (L : Nat → Bool) (a : Act) (w : World) (ι : Ren) : Prop where
 step : Step P ι0 (σ 0).h.get w0 ι (HL es L (σ 0)) w
 dom : ∀ k, ι k ≠ none → ι0 k ≠ none ∨ far ≤ k ∨ ∃ j, L j = true ∧ j < es.length ∧ (σ j).n ≤ k ∧ k < (σ (j + 1)).n
 size : a.tmps.size = nt
 defers : a.defers = D
 temps : ∀ t, VR ι ((TL es L (τ 0) t).getD undef) (a.tmps.getD t undef)
theorem Ctx.order {D : List Deferred} (C : Ctx P ext nt fu ops es σ τ) {ι0 : Ren} {w0 : World} (hf : Fresh ι0 (σ 0).n (σ es.length).n) {Q : Exit → Act → World → Prop}
  (hQ : ∀ ι a w, Step P ι0 (σ 0).h.get w0 ι (σ es.length).h.get w → Dom ι0 ι (σ 0).n (σ es.length).n → TR ι nt D (τ es.length) a → Q .normal a w) :
  ∀ (fuel : Nat) (listed : Array Bool) (a : Act) (w : World) (ι : Ren), listed.size = ops.size → cnt (fun j => listed.getD j false) es.length ≤ fuel → Zpz es (fun j => listed.getD j false) → Inv P nt D es σ τ ι0 w0 (fun j => listed.getD j false) a w ι →
   wpAny P .any ops Q fuel listed a w := by
 -- all are listed
 have fin : ∀ (listed : Array Bool) (a : Act) (w : World) (ι : Ren), (∀ j, j < es.length → listed.getD j false = true) → Inv P nt D es σ τ ι0 w0 (fun j => listed.getD j false) a w ι → Q .normal a w := fun listed a w ι hall I => by
  have hH : HL es (fun j => listed.getD j false) (σ 0) = (σ es.length).h.get := funext fun k =>
   ZjY (S := fun p => (σ p).h.get k) es.length es.length (Nat.le_refl _) (fun p hp => C.chainH k p hp) (fun p hp hL => by rw [hall p hp] at hL; cases hL) (fun p h1 h2 => by omega)
  have hT : ∀ t, TL es (fun j => listed.getD j false) (τ 0) t = (τ es.length).get t := fun t =>
   ZjY (S := fun p => (τ p).get t) es.length es.length (Nat.le_refl _) (fun p hp => C.chainT t p hp) (fun p hp hL => by rw [hall p hp] at hL; cases hL) (fun p h1 h2 => by omega)
  refine hQ ι a w (hH ▸ I.step) (fun k hk => ?_) ⟨I.size, I.defers, fun t => hT t ▸ I.temps t⟩
  rcases I.dom k hk with h | h | ⟨j, _, hj, h1, h2⟩
  ·exact .inl h
  ·exact .inr (.inr h)
  ·have := C.mono (i := 0) (j := j) (by omega) (by omega)
   have := C.mono (i := j + 1) (j := es.length) (by omega) (Nat.le_refl _)
   exact .inr (.inl ⟨by omega, by omega⟩)
 have none_ready : ∀ (listed : Array Bool), listed.size = ops.size → Region.ready .any ops listed = [] → ∀ j, j < es.length → listed.getD j false = true := fun listed hs hr => by
  intro j
  induction j using Nat.strongRecOn with
  | _ j ih =>
   intro hj
   obtain ⟨e, he⟩ := C.get hj
   cases hL : listed.getD j false with
   | true => rfl
   | false =>
    exfalso
    have hm : j ∈ Region.ready .any ops listed := (Zmn hs).2 ⟨e.o, C.op j e he, hL, fun d hd hb => by
     have := Zmk (C.ok j e he).edges d hd hb
     rw [List.length_take] at this
     exact ih d.on (by omega) (by omega)⟩
    rw [hr] at hm
    cases hm
 intro fuel
 induction fuel with
 | zero =>
  intro listed a w ι hs hc _ I
  have hall := ZrJ es.length (by omega : cnt (fun j => listed.getD j false) es.length = 0)
  refine ⟨?_, fin listed a w ι hall I⟩
  cases hr : Region.ready .any ops listed with
  | nil => rfl
  | cons i l =>
   obtain ⟨o, ho, h1, _⟩ := (Zmn hs).1 (show i ∈ Region.ready .any ops listed by rw [hr]; simp)
   have hi : i < es.length := by rw [C.len]; exact (Array.getElem?_eq_some_iff.1 ho).1
   have := hall i hi
   rw [h1] at this
   cases this
 | succ fuel ih =>
  intro listed a w ι hs hc hcl I
  refine ⟨fun hr => fin listed a w ι (none_ready listed hs hr) I, fun i hi => ?_⟩
  obtain ⟨o, ho, h1, h2⟩ := (Zmn hs).1 hi
  have hin : i < es.length := by rw [C.len]; exact (Array.getElem?_eq_some_iff.1 ho).1
  obtain ⟨e, he⟩ := C.get hin
  have heo : e.o = o := by have := C.op i e he; rw [ho] at this; exact (Option.some.inj this).symm
  subst heo
  have R : ZmN es (fun j => listed.getD j false) i e := ⟨he, hcl, h1, h2⟩
  obtain ⟨rk, rn0, rn1, _, rsh⟩ := C.rok i e he
  have hK : ∀ k o', Kof e k = some o' → HL es (fun j => listed.getD j false) (σ 0) k = some o' := fun k o' hk => by
   unfold Kof at hk
   split at hk
   ·rename_i hsm
    rw [ZjX] at hk
    split at hk
    ·rename_i hm
     rw [C.agreeH R k (fun _ => hm) (fun e => by rw [hsm] at e; cases e) (fun e => by rw [hsm] at e; cases e)]
     rw [← rsh]; exact hk
    ·cases hk
   ·rename_i hsm
    rw [rsh, Zd3] at hk
    split at hk
    ·rw [Tr.get_nil] at hk; cases hk
    ·rename_i hm
     rw [C.agreeH R k (fun e => absurd e hsm) (fun _ => C.live i (by omega) k (by rw [hk]; rfl)) (fun _ => hm)]
     exact hk
  have hfr : Fresh ι (σ i).n (σ (i + 1)).n := ⟨Nat.le_trans (C.mono (i := i + 1) (j := es.length) (by omega) (Nat.le_refl _)) hf.1, fun k k1 k2 => by
   cases hk : ι k with
   | none => rfl
   | some c =>
    exfalso
    have m1 := C.mono (i := 0) (j := i) (by omega) (by omega)
    have m2 := C.mono (i := i + 1) (j := es.length) (by omega) (Nat.le_refl _)
    rcases I.dom k (by rw [hk]; simp) with h | h | ⟨j, hj, hjn, q1, q2⟩
    ·exact h (hf.2 k (by omega) (by omega))
    ·have := hf.1; omega
    ·by_cases hji : j = i
     ·subst hji
      have hj' : listed.getD j false = true := hj
      rw [h1] at hj'; cases hj'
     ·rcases Nat.lt_or_ge j i with h | h
      ·have := C.mono (i := j + 1) (j := i) (by omega) (by omega); omega
      ·have := C.mono (i := i + 1) (j := j) (by omega) (by omega); omega⟩
  have hil : i < listed.size := by rw [hs, ← C.len]; exact hin
  have hL' : (fun j => (listed.setIfInBounds i true).getD j false) = ZcU (fun j => listed.getD j false) i := funext fun j => by
   unfold ZcU
   by_cases hj : j = i
   ·subst hj; simp [Array.getD, hil]
   ·rw [if_neg hj]
    simp [Array.getD_eq_getD_getElem?, Array.getElem?_setIfInBounds_ne (fun e => hj e.symm)]
  refine C.sem i e he ι w a _ Q (fun t ht => ?_) (I.step.emb.sub hK) hfr fun v' w' ι' st dm hv => ?_
  ·rw [← C.agreeT R t ht]
   exact I.temps t
  ·-- the others stay
   have hX1 : join (Kof e) (fun k => if (Kof e k).isSome then none else HL es (fun j => listed.getD j false) (σ 0) k) = HL es (fun j => listed.getD j false) (σ 0) := funext fun k => by
    cases hk : Kof e k with
    | some o' => rw [Zd4 (by rw [hk]; rfl), hk, hK k o' hk]
    | none => rw [Zb5 hk, hk]; rfl
   have hX2 : join (ZrF e) (fun k => if (Kof e k).isSome then none else HL es (fun j => listed.getD j false) (σ 0) k) = HL es (ZcU (fun j => listed.getD j false) i) (σ 0) := funext fun k => by
    rw [C.addH R k]
    unfold join ZrF
    cases hd : Dk e.r k with
    | false =>
     simp only [Bool.false_eq_true, if_false]
     cases hk : Kof e k with
     | some o' => exact (hK k o' hk).symm
     | none => rfl
    | true =>
     simp only [if_true]
     cases hs' : e.s'.h.get k with
     | some o' => rfl
     | none =>
      simp only
      split
      ·rfl
      ·rename_i hn
       have hkn : Kof e k = none := by
        cases hk : Kof e k with
        | none => rfl
        | some o' => rw [hk] at hn; exact absurd rfl hn
       rcases Ze1.1 hd with ⟨q1, q2⟩ | ⟨q1, q2⟩
       ·have hlt := rk.lt k q2
        rw [C.agreeH R k (fun _ => List.mem_append_left _ q2) (fun _ => by omega) (fun hs => rk.qt hs k q2)]
        unfold Kof at hkn
        split at hkn
        ·rw [ZjX, if_pos (List.mem_append_left _ q2), rsh] at hkn; exact hkn
        ·rename_i hsm
         rw [rsh, Zd3, if_neg (rk.qt (by simpa using hsm) k q2)] at hkn; exact hkn
       ·cases hx : HL es (fun j => listed.getD j false) (σ 0) k with
        | none => rfl
        | some o' =>
         obtain ⟨b, hb⟩ := I.step.emb.live (k := k) (by rw [hx]; rfl)
         have := hfr.2 k (by omega) (by omega)
         rw [this] at hb
         cases hb
   have fr := Step.framed st (x := fun k => if (Kof e k).isSome then none else HL es (fun j => listed.getD j false) (σ 0) k) (by rw [hX1]; exact I.step.emb) (fun k hk => by
    cases hkk : Kof e k with
    | none => rfl
    | some o' => simp only [hkk] at hk; simp at hk)
   rw [hX1, hX2] at fr
   have hdst := (C.ok i e he).dst
   refine ih (listed.setIfInBounds i true) _ w' ι' (by simpa using hs) ?_ ?_ ?_
   ·rw [hL']
    have := (Ztx (L := fun j => listed.getD j false) (i := i) h1 es.length).2 hin
    omega
   ·rw [hL']
    intro j d hd hj x hx hb
    unfold ZcU at hj ⊢
    split
    ·rfl
    ·by_cases hji : j = i
     ·subst hji
      rw [he] at hd; injection hd with hd; subst hd
      exact h2 x hx hb
     ·rw [if_neg hji] at hj
      exact hcl j d hd hj x hx hb
   ·rw [hL']
    refine ⟨I.step.trans fr, fun k hk => ?_, ?_, ?_, fun t => ?_⟩
    ·rcases dm k hk with h | ⟨q1, q2⟩ | h
     ·rcases I.dom k h with h | h | ⟨j, hj, hjn, q1, q2⟩
      ·exact .inl h
      ·exact .inr (.inl h)
      ·exact .inr (.inr ⟨j, by unfold ZcU; split <;> first | rfl | exact hj, hjn, q1, q2⟩)
     ·exact .inr (.inr ⟨i, by simp [ZcU], hin, q1, q2⟩)
     ·exact .inr (.inl h)
    ·have := I.size
     cases e.o.dst <;> simp [Act.put, this]
    ·have := I.defers
     cases e.o.dst <;> simp [Act.put, this]
    ·rw [C.addT R t, ZnN I.size hdst]
     by_cases hdt : e.o.dst = some t
     ·rw [if_pos hdt, if_pos hdt]; exact hv
     ·rw [if_neg hdt, if_neg hdt]; exact (I.temps t).ext fr.ext
end
end Ev
end Go.Proofs.YtlbbiflodemagaaDoor
/- A region that draws its order: from the run in the text's order to any order. -/
namespace Go.Proofs.YtlbbiflodemagaaDoor
open Go.RowKit
namespace Ev
section
variable {P : Program} {ext : FuncId → Option Ext}

noncomputable def SOp (P : Program) (ext : FuncId → Option Ext) (fu : Nat) : Prop :=
  ∀ (ρ ρ' : Operand → Value) (o : Oper) (s : St) (v : Value) (s' : St), Zf6 P ext fu ρ o s = some (v, s') → (∀ p ∈ s'.ob, p.1 = p.2) → ∀ (ι : Ren) (w : World), (∀ x, VR ι (ρ x) (ρ' x)) → Emb P ι s.h.get w → Fresh ι s.n s'.n →
    ∀ (a : Act) (K : Act → World → Prop) (Q : Exit → Act → World → Prop), execOp a.eval o = execOp ρ' o → (∀ v' w' ι', Step P ι s.h.get w ι' s'.h.get w' → Dom ι ι' s.n s'.n → VR ι' v v' → K (a.put o.dst v') w') → o.wp P a w K Q
noncomputable def K0 (r : Rec) (s : St) : AH := if r.small then (ZjU s.h (r.t ++ r.q)).get else (ZeO .nil r.q s.h).get
theorem Zge {n k : Nat} : ∀ {l : List Nat}, k ∈ Zjx n l ↔ k ∈ l ∧ k < n
  | [] => by simp [Zjx]
  | x :: l => by
    simp only [Zjx]
    cases hx : Nat.blt x n with
    | true =>
      have : x < n := Nat.le_of_ble_eq_true hx
      simp only [cond_true, List.mem_cons, Zge (l := l)]
      constructor
      · rintro (rfl | ⟨h1, h2⟩)
        · exact ⟨.inl rfl, this⟩
        · exact ⟨.inr h1, h2⟩
      · rintro ⟨rfl | h1, h2⟩
        · exact .inl rfl
        · exact .inr ⟨h1, h2⟩
    | false =>
      have : ¬ x < n := fun e => by rw [show Nat.blt x n = true from Nat.ble_eq_true_of_le e] at hx; cases hx
      simp only [cond_false, List.mem_cons, Zge (l := l)]
      constructor
      · rintro ⟨h1, h2⟩; exact ⟨.inr h1, h2⟩
      · rintro ⟨rfl | h1, h2⟩
        · exact absurd h2 this
        · exact ⟨h1, h2⟩
theorem Zqs (F : Fit P ext) {fu : Nat} {xs : List Nat} {ρ : Operand → Value} {o : Oper} {s s' : St} {v : Value} {r : Rec} (h : ZiR P ext (fu + 1) xs ρ o s = some (v, s', r)) :
    Zo6 r ∧ r.n0 = s.n ∧ r.n1 = s'.n ∧ (∀ k, Dk r k = false → s'.h.get k = s.h.get k) ∧
    ∃ (s0 s1 : St), Zf6 P ext fu ρ o s0 = some (v, s1) ∧ s0.n = s.n ∧ s1.n = s'.n ∧ s1.ob = s'.ob ∧ s0.h.get = K0 r s ∧ s1.h.get = fun k => if Dk r k then s'.h.get k else K0 r s k := by
  have ndk : ∀ {k : Nat}, Dk r k = false → ¬ ((r.w = true ∧ k ∈ r.t) ∨ (r.n0 ≤ k ∧ k < r.n1)) := fun {k} hd hn => by rw [Ze1.2 hn] at hd; cases hd
  simp only [ZiR] at h
  split at h
  · split at h
    · rename_i v1 s1 h1
      obtain ⟨hall, h⟩ := Zn h
      simp only [Bool.and_eq_true] at hall
      obtain ⟨hall, hxl, hxw⟩ := hall
      injection h with h
      simp only [Prod.mk.injEq] at h
      obtain ⟨rfl, rfl, rfl⟩ := h
      have u := (Zbf (P := P) (ext := ext) (fun f g hg => (F.hp f g hg).up) fu).2.2.1 _ _ _ _ _ h1
      obtain ⟨l, e1, e2⟩ := u.log
      simp only [List.append_nil] at e1
      subst e1
      have hx : ∀ k ∈ xs, k < s.n := fun k hk => Nat.le_of_ble_eq_true (Zat hxl k hk)
      have same : ∀ k, Dk ⟨false, true, Zjx s.n s1.wr, s.n, s1.n, xs⟩ k = false → s1.h.get k = (ZeO .nil xs s.h).get k := fun k hd => by
        have hn := ndk hd
        refine e2 k (fun hk => hn ?_) (fun hk => hn (.inr hk))
        have hk1 : k < s1.n := Nat.le_of_ble_eq_true (Zat hall k hk)
        by_cases hks : k < s.n
        · exact .inl ⟨rfl, Zge.2 ⟨hk, hks⟩⟩
        · exact .inr ⟨Nat.not_lt.1 hks, hk1⟩
      refine ⟨⟨fun k hk => (Zge.1 hk).2, hx, u.n, fun _ => rfl, fun _ k hk hm => ZcE hxw hm (Zge.1 hk).1⟩, rfl, rfl, fun k hd => ?_, _, s1, h1, rfl, rfl, rfl, rfl, funext fun k => ?_⟩
      · show (ZeO _ _ _).get k = _
        rw [Zd3]
        split
        · rfl
        · rename_i hm
          rw [same k hd, Zd3, if_neg hm]
      · split
        · rename_i hd
          show _ = (ZeO _ _ _).get k
          rw [Zd3, if_neg]
          intro hm
          rcases Ze1.1 hd with ⟨_, q2⟩ | ⟨q1, _⟩
          · exact ZcE hxw hm (Zge.1 q2).1
          · have := hx k hm; simp only at q1; omega
        · rename_i hd
          exact same k (by simpa using hd)
    · cases h
  · generalize hw : (ZgQ s ρ o).1 = w at h
    generalize ht : (ZgQ s ρ o).2 = t at h
    generalize hq : Zk5 ρ o = q at h
    obtain ⟨hltq, h⟩ := Zn h
    obtain ⟨hlt, hlq⟩ := (Bool.and_eq_true _ _).mp hltq
    split at h
    · rename_i v1 s1 h1
      obtain ⟨hall, h⟩ := Zn h
      simp only [Bool.and_eq_true] at hall
      injection h with h
      simp only [Prod.mk.injEq] at h
      obtain ⟨rfl, rfl, rfl⟩ := h
      have u := (Zbf (P := P) (ext := ext) (fun f g hg => (F.hp f g hg).up) fu).2.2.1 _ _ _ _ _ h1
      obtain ⟨l, e1, e2⟩ := u.log
      simp only [List.append_nil] at e1
      subst e1
      have hle : s1.n ≤ s.n + 1 := Nat.le_of_ble_eq_true hall.2
      have hge : s.n ≤ s1.n := u.n
      have htl : ∀ k ∈ t, k < s.n := fun k hk => Nat.le_of_ble_eq_true (Zat hlt k hk)
      have hwr : ∀ k ∈ s1.wr, w = true ∧ k ∈ t := fun k hk => by
        have := Zat hall.1 k hk
        simp only [Bool.and_eq_true, ZgF] at this
        exact this
      have gets : ∀ k, ((bif w then ZeO s1.h t s.h else s.h).set s.n (bif Nat.beq s1.n s.n then s.h.get s.n else s1.h.get s.n)).get k =
          if k = s.n then (bif Nat.beq s1.n s.n then s.h.get s.n else s1.h.get s.n) else if w = true ∧ k ∈ t then s1.h.get k else s.h.get k := fun k => by
        rw [Tr.get_set]
        unfold upd
        split
        · rfl
        · cases w with
          | false => simp
          | true =>
            simp only [cond_true, true_and]
            rw [Zd3]
      refine ⟨⟨htl, fun k hk => Nat.le_of_ble_eq_true (Zat hlq k hk), hge, fun e => (by cases e), fun e => by cases e⟩, rfl, rfl, fun k hd => ?_, _, s1, h1, rfl, rfl, rfl, rfl, funext fun k => ?_⟩
      · have hn := ndk hd
        rw [gets]
        split
        · rename_i hk
          subst hk
          have : s1.n = s.n := by
            rcases Nat.lt_or_ge s.n s1.n with h | h
            · exact absurd (.inr ⟨Nat.le_refl _, h⟩) hn
            · omega
          rw [Zhd this]; rfl
        · split
          · rename_i hk; exact absurd (.inl hk) hn
          · rfl
      · split
        · rename_i hd
          rw [gets]
          rcases Ze1.1 hd with ⟨q1, q2⟩ | ⟨q1, q2⟩
          · have := htl k q2
            rw [if_neg (by omega), if_pos ⟨q1, q2⟩]
          · simp only at q1 q2
            have hk : k = s.n := by omega
            subst hk
            rw [if_pos rfl, Zhc (by omega)]; rfl
        · rename_i hd
          have hn := ndk (by simpa using hd)
          show _ = (ZjU s.h (t ++ q)).get k
          exact e2 k (fun hk => hn (.inl (hwr k hk))) (fun hk => hn (.inr hk))
    · cases h
theorem Zls {t : Tmp} : ∀ {l : List Operand}, t ∈ Zha l ↔ .tmp t ∈ l
  | [] => by simp [Zha]
  | x :: l => by cases x <;> simp [Zha, Zls (l := l)]
theorem Zqt {T : Tr Value} (t : Nat) : ∀ (l : List Tmp), (ZmM T l).get t = if t ∈ l then T.get t else none
  | [] => by simp [ZmM, Tr.get_nil]
  | j :: l => by
    rw [ZmM, Tr.get_set]
    by_cases hk : t = j
    · subst hk; rw [Zw]; simp
    · rw [Zm hk, Zqt t l]
      simp [hk]
theorem ZhH {fu : Nat} {ρ : Operand → Value} {o : Oper} {s s' : St} {v : Value} (h : Zf6 P ext fu ρ o s = some (v, s')) : ∀ cs b, o.op ≠ .select cs b := fun cs b hsel => by
  cases fu with
  | zero => simp [Zf6] at h
  | succ fu =>
    have h1 : ev1 P ρ o s = none := by unfold ev1; rw [hsel]
    simp only [Zf6, Zk4, hsel, h1] at h
    cases h
theorem ZrK (F : Fit P ext) {nt fu : Nat} {D : List Deferred} {ops : Array Oper} {es : List Ent} {T T' : Tr Value} {s s' : St} (hS : ∀ fu', fu' < fu → SOp P ext fu') (h : ZdX P ext nt fu ops [] ops.toList T s = some (es, T', s')) (ho : ∀ p ∈ s'.ob, p.1 = p.2)
    {ι : Ren} {a : Act} {w : World} {Q : Exit → Act → World → Prop} (hT : TR ι nt D T a) (he : Emb P ι s.h.get w) (hf : Fresh ι s.n s'.n)
    (hQ : ∀ ι' a' w', Step P ι s.h.get w ι' s'.h.get w' → Dom ι ι' s.n s'.n → TR ι' nt D T' a' → Q .normal a' w') : wpAny P .any ops Q ops.size (Array.replicate ops.size false) a { w with drawn := w.drawn + 1 } := by
  obtain ⟨es2, σ, τ, h1, h2, h3, h4, h5, h6, h7⟩ := Zo7 nt ops fu _ _ _ _ _ _ _ h
  simp only [List.nil_append] at h1 h7
  subst h1
  have hlen : es.length = ops.size := by rw [← List.length_map (f := (·.o)), h2]; simp
  have hN : ops.toList.length = es.length := by rw [hlen]; simp
  rw [hN] at h5 h6
  have hop : ∀ (i : Nat) (e : Ent), es[i]? = some e → ops[i]? = some e.o := fun i e hi => by
    have : (es.map (·.o))[i]? = some e.o := by simp [hi]
    rw [h2] at this
    simpa using this
  have hup : ∀ (i : Nat) (e : Ent), es[i]? = some e → Up (σ i) e.s ∧ Up e.s e.s' := fun i e hi => by
    obtain ⟨b, q1, q2, q3⟩ := (h7 i e hi).run
    refine ⟨ZaD q1, ?_⟩
    cases b with
    | true =>
      obtain ⟨fu', _, xs, hv⟩ := q2 rfl
      exact (Zbf (P := P) (ext := ext) (fun f g hg => (F.hp f g hg).up) fu').2.2.2.2.2 _ _ _ _ _ _ _ hv
    | false => obtain ⟨_, e1, _⟩ := q3 rfl; rw [e1]; exact Up.refl _
  have upn : ∀ m i, i + m = es.length → Up (σ i) (σ es.length) := by
    intro m
    induction m with
    | zero => intro i hi; obtain rfl : i = es.length := by omega
              exact Up.refl _
    | succ m ih =>
      intro i hi
      have hlt : i < es.length := by omega
      obtain ⟨u1, u2⟩ := hup i es[i] (List.getElem?_eq_getElem hlt)
      have := ih (i + 1) (by omega)
      rw [(h7 i es[i] (List.getElem?_eq_getElem hlt)).es'] at this
      exact (u1.trans u2).trans this
  have hob : ∀ (i : Nat) (e : Ent), es[i]? = some e → ∀ p ∈ e.s'.ob, p.1 = p.2 := fun i e hi => by
    have hlt : i < es.length := (List.getElem?_eq_some_iff.1 hi).1
    have u := upn (es.length - (i + 1)) (i + 1) (by omega)
    rw [(h7 i e hi).es', h5] at u
    exact Zai u.ob ho
  -- a test answered so is so
  have hst : ∀ (i : Nat) (e : Ent), es[i]? = some e → e.s.h = (σ i).h ∧ e.s.n = (σ i).n := fun i e hi => by
    obtain ⟨b, q1, _, _⟩ := (h7 i e hi).run
    unfold ZdS at q1
    split at q1
    · injection q1 with q1; injection q1 with g1 g2; rw [← g2]; exact ⟨rfl, rfl⟩
    · split at q1
      · split at q1
        · injection q1 with q1; injection q1 with g1 g2; rw [← g2]; exact ⟨rfl, rfl⟩
        · injection q1 with q1; injection q1 with g1 g2; rw [← g2]; exact ⟨rfl, rfl⟩
        · cases q1
      · cases q1
  have hrec : ∀ (i : Nat) (e : Ent), es[i]? = some e → Zo6 e.r ∧ e.r.n0 = (σ i).n ∧ e.r.n1 = (σ (i + 1)).n ∧ (∀ k, Dk e.r k = false → (σ (i + 1)).h.get k = (σ i).h.get k) ∧ e.s.h = (σ i).h := fun i e hi => by
    obtain ⟨g1, g2⟩ := hst i e hi
    obtain ⟨b, q1, q2, q3⟩ := (h7 i e hi).run
    rw [(h7 i e hi).es']
    cases b with
    | true =>
      obtain ⟨fu', _, xs, hv⟩ := q2 rfl
      cases fu' with
      | zero => simp [ZiR] at hv
      | succ fu' =>
        obtain ⟨r1, r2, r3, r4, _⟩ := Zqs F hv
        exact ⟨r1, by rw [r2, g2], r3, fun k hk => by rw [r4 k hk, g1], g1⟩
    | false =>
      obtain ⟨_, e1, e2⟩ := q3 rfl
      rw [e1, e2]
      exact ⟨⟨fun k hk => by simp [Zi6] at hk, fun k hk => by simp [Zi6] at hk, Nat.le_refl _, fun e => (by simp [Zi6] at e), fun e => by simp [Zi6] at e⟩, g2, rfl, fun k _ => by rw [g1], g1⟩
  have C : Ctx P ext nt fu ops es σ τ := by
    refine ⟨hlen, hop, h7, hrec, fun k hk => ?_, fun i e hi ι1 w1 a1 K Q1 ht1 he1 hf1 hK => ?_⟩
    · rw [h3] at hk ⊢
      rw [h5]
      rintro ⟨k1, k2⟩
      obtain ⟨b, hb⟩ := he.live hk
      rw [hf.2 k k1 k2] at hb
      cases hb
    · obtain ⟨g1, g2⟩ := hst i e hi
      obtain ⟨b, q1, q2, q3⟩ := (h7 i e hi).run
      have hes' := (h7 i e hi).es'
      have hlt : i < es.length := (List.getElem?_eq_some_iff.1 hi).1
      obtain ⟨hwant, _, _⟩ := ZbJ ht1 q1
      unfold wpOp
      rw [hop i e hi]
      simp only
      cases b with
      | true =>
        rw [if_pos hwant]
        obtain ⟨fu', hfu, xs, hv⟩ := q2 rfl
        cases fu' with
        | zero => simp [ZiR] at hv
        | succ fu' =>
          obtain ⟨r1, r2, r3, r4, s0, s1, hv1, n0, n1, ob1, hh0, hh1⟩ := Zqs F hv
          refine .inl (hS fu' (by omega) _ (fun x => match x with | .tmp t => if t ∈ Zha e.o.op.operands.toList then a1.tmps.getD t undef else undef | x => Zbj a1 x) e.o s0 e.v s1 hv1 (by rw [ob1]; exact hob i e hi) ι1 w1 (fun x => ?_) ?_ ?_ a1 K Q1 ?_ fun v' w' ι' k1 k2 k3 => ?_)
          · cases x with
            | tmp t =>
              simp only [opnd]
              rw [Zqt]
              by_cases htm : t ∈ Zha e.o.op.operands.toList
              · rw [if_pos htm, if_pos htm]
                refine ht1 t ?_
                unfold Oper.looksAt
                refine List.mem_append_left _ (List.mem_filterMap.2 ⟨.tmp t, Zls.1 htm, rfl⟩)
              · rw [if_neg htm, if_neg htm]; exact VR.undef'
            | const v =>
              simp only [opnd, Zbj]
              cases hfv : Zbv v
              · exact VR.undef'
              · exact VR.of_free hfv
            | global g => exact .glob rfl
            | func f => exact .atom rfl
          · rw [hh0]; exact he1
          · rw [n0, n1, g2, ← hes']; exact hf1
          · refine execOp_congr e.o (fun cs b hsel => ?_) fun x hx => ?_
            · exact ZhH hv1 cs b hsel
            · have hg := Zat (h7 i e hi).good x (by simpa using hx)
              cases x with
              | tmp t => simp only; rw [if_pos (Zls.2 (by simpa using hx))]; rfl
              | const v => simp only [Zew] at hg; simp [Zbj, hg, Act.eval]
              | global g => rfl
              | func f => rfl
          · rw [hh0, hh1] at k1
            rw [n0, n1, g2, ← hes'] at k2
            exact hK v' w' ι' k1 k2 k3
      | false =>
        obtain ⟨e0, e1, e2⟩ := q3 rfl
        rw [if_neg (by rw [hwant]; simp)]
        refine hK undef w1 ι1 ?_ Dom.refl (by rw [e0]; exact VR.undef')
        have : ZrF e = Kof e := funext fun k => by
          unfold ZrF
          rw [e2]
          have : Dk (Zi6 e.s) k = false := by
            cases hd : Dk (Zi6 e.s) k with
            | false => rfl
            | true =>
              rcases Ze1.1 hd with ⟨q, _⟩ | ⟨q1, q2⟩
              · simp [Zi6] at q
              · simp only [Zi6] at q1 q2; omega
          rw [this]; rfl
        rw [this]
        exact Step.refl he1
  have none0 : ∀ {β : Type} (D : Nat → Bool) (V : Nat → β) (x0 : β) (L : Nat → Bool), (∀ j, L j = false) → ∀ n, ovf L D V x0 n = x0 := fun D V x0 L hL n => by
    induction n with
    | zero => rfl
    | succ n ih => rw [ovf, hL n, ih]; simp
  have hL0 : ∀ j, (Array.replicate ops.size false).getD j false = false := fun j => by
    simp only [Array.getD_eq_getD_getElem?, Array.getElem?_replicate]
    split <;> rfl
  have hH0 : HL es (fun j => (Array.replicate ops.size false).getD j false) (σ 0) = (σ 0).h.get := funext fun k => none0 _ _ _ _ hL0 _
  have hT0 : ∀ t, TL es (fun j => (Array.replicate ops.size false).getD j false) (τ 0) t = (τ 0).get t := fun t => none0 _ _ _ _ hL0 _
  have hs0 : Step P ι (σ 0).h.get w ι (σ 0).h.get { w with drawn := w.drawn + 1 } := Step.still (by rw [h3]; exact he) rfl rfl rfl rfl
  refine C.order (ι0 := ι) (w0 := w) (by rw [h3, h5]; exact hf) (Q := Q) (fun ι' a' w' k1 k2 k3 => ?_) ops.size _ a _ ι (by simp) ?_ ?_ ⟨by rw [hH0]; exact hs0, fun k hk => .inl hk, hT.1, hT.2.1, fun t => by rw [hT0, h4]; exact hT.2.2 t⟩
  · rw [h3, h5] at k1 k2
    rw [h6] at k3
    exact hQ ι' a' w' k1 k2 k3
  · rw [← hlen]
    have : ∀ n, cnt (fun j => (Array.replicate es.length false).getD j false) n ≤ n := fun n => by
      induction n with
      | zero => exact Nat.le_refl _
      | succ n ih => rw [cnt]; split <;> omega
    exact this _
  · intro i e _ hi
    exact absurd ((hL0 i).symm.trans hi) (by decide)
theorem Zup (F : Fit P ext) {nt fu : Nat} {D : List Deferred} {ops : Array Oper} {es : List Ent} {T T' : Tr Value} {s s' : St} (hS : ∀ fu', fu' < fu → SOp P ext fu') (h : ZdX P ext nt fu ops [] ops.toList T s = some (es, T', s')) (ho : ∀ p ∈ s'.ob, p.1 = p.2)
    {ι : Ren} {a : Act} {w : World} {Q : Exit → Act → World → Prop} {id : Nat} (hT : TR ι nt D T a) (he : Emb P ι s.h.get w) (hf : Fresh ι s.n s'.n)
    (hQ : ∀ ι' a' w', Step P ι s.h.get w ι' s'.h.get w' → Dom ι ι' s.n s'.n → TR ι' nt D T' a' → Q .normal a' w') : (Code.region id ops true).wp P Q a w :=
  wp_region_any F.mixed (ZrK F hS h ho hT he hf hQ)
end
end Ev
end Go.Proofs.YtlbbiflodemagaaDoor
/- The runner against the model: what it says holds in every world. -/
namespace Go.Proofs.YtlbbiflodemagaaDoor
open Go.RowKit
namespace Ev
section
variable {P : Program} {ext : FuncId → Option Ext}

def ZeU (P : Program) (ι : Ren) (s : St) (w : World) (nt : Nat) (D : List Deferred) (e : Ex) (T' : Tr Value) (s' : St) (ex : Exit) (a' : Act) (w' : World) : Prop :=
 ex = e.out ∧ ∃ ι', Step P ι s.h.get w ι' s'.h.get w' ∧ Dom ι ι' s.n s'.n ∧ TR ι' nt D T' a'
theorem Step.two {ι ι1 ι2 : Ren} {s s1 s2 : St} {w w1 w2 : World} (a : Step P ι s.h.get w ι1 s1.h.get w1 ∧ Dom ι ι1 s.n s1.n) (b : Step P ι1 s1.h.get w1 ι2 s2.h.get w2 ∧ Dom ι1 ι2 s1.n s2.n) (h1 : s.n ≤ s1.n) (h2 : s1.n ≤ s2.n) :
  Step P ι s.h.get w ι2 s2.h.get w2 ∧ Dom ι ι2 s.n s2.n := ⟨a.1.trans b.1, a.2.trans b.2 h1 h2⟩
theorem Zn5 {o : Oper} {c : Call} (h : Zk4 o = some c) : o.op = .call c ∧ True := by
 unfold Zk4 at h
 split at h
 ·rename_i c' ho
  split at h
  ·rename_i f hf
   injection h with h; subst h
   exact ⟨ho, trivial⟩
  ·injection h with h; subst h
   exact ⟨ho, trivial⟩
  ·cases h
 ·cases h
theorem ZeV {ι : Ren} {a a' b b' : Array Value} (h : VRs ι a a') (k : VRs ι b b') : VRs ι (a ++ b) (a' ++ b') := by
 refine ⟨by simp [h.1, k.1], fun i x y hx hy => ?_⟩
 by_cases hi : i < a.size
 ·rw [Array.getElem?_append_left hi] at hx
  rw [Array.getElem?_append_left (by rw [← h.1]; exact hi)] at hy
  exact h.2 i x y hx hy
 ·rw [Array.getElem?_append_right (by omega)] at hx
  rw [Array.getElem?_append_right (by rw [← h.1]; omega), ← h.1] at hy
  exact k.2 _ x y hx hy
theorem Zmo {ι : Ren} {ρ ρ' : Operand → Value} {o : Oper} {c : Call} {f : FuncId} {args : Array Value} (hρ : ∀ x, VR ι (ρ x) (ρ' x)) (ho : o.op = .call c) (h : callee ρ c = some (f, args)) (w : World) :
  ∃ args', (execOp ρ' o).run P w = (callFunc f args').run P w ∧ VRs ι args args' := by
 unfold callee at h
 split at h
 ·rename_i x hx
  split at h
  ·rename_i g a b hg
   injection h with h; injection h with h1 h2; subst h1 h2
   have hv := hg ▸ hρ x
   have : ∃ a' b', ρ' x = .func (.func g) a' b' ∧ VRs ι a a' ∧ VRs ι b b' := by
    generalize ρ' x = x' at hv
    cases hv with
    | atom h =>
     simp [Ev.atom] at h
     obtain ⟨rfl, rfl⟩ := h
     exact ⟨_, _, rfl, ⟨rfl, fun i x y hx => by simp at hx⟩, ⟨rfl, fun i x y hx => by simp at hx⟩⟩
    | func hs ht h1 h2 => exact ⟨_, _, rfl, ⟨hs, h1⟩, ⟨ht, h2⟩⟩
   obtain ⟨a', b', hx', ha, hb⟩ := this
   refine ⟨a' ++ c.args.map ρ' ++ b', ?_, ZeV (ZeV ha (Zjg hρ c.args)) hb⟩
   simp [execOp, ho, resolve, hx, hx', Deferred.ofValue, invoke, Result.andThen, Sem.run]
  ·cases h
 ·cases h
theorem ZqL {ι : Ren} {ρ ρ' : Operand → Value} {o : Oper} {c : Call} {f : FuncId} {args : Array Value} (hρ : ∀ x, VR ι (ρ x) (ρ' x)) (ho : o.op = .call c) (h : Zpt P ρ c = some (f, args)) (w : World) :
  ∃ args', (execOp ρ' o).run P w = (callFunc f args').run P w ∧ VRs ι args args' := by
 unfold Zpt at h
 split at h
 ·rename_i r name hc
  split at h
  ·rename_i t v hv
   obtain ⟨_, h⟩ := Zn h
   split at h
   ·rename_i g x hm
    obtain ⟨hx, h⟩ := Zn h
    injection h with h
    injection h with h1 h2
    subst h1 h2
    have hr : ρ' r = .iface t v := by
     have hv' := hv ▸ hρ r
     generalize ρ' r = x' at hv'
     cases hv' with
     | atom h => rfl
    refine ⟨#[x] ++ c.args.map ρ', ?_, ZeV ⟨rfl, fun i y z hy hz => by
     rw [hy] at hz
     injection hz with hz
     subst hz
     rcases i with _ | i
     ·simp at hy; subst hy; exact VR.of_free1 hx
     ·simp at hy⟩ (Zjg hρ c.args)⟩
    have hm' := Zf7 w hm
    have e0 : (#[Value.iface t v] ++ Array.map ρ' c.args)[0]? = some (Value.iface t v) := by
     rw [Array.getElem?_append_left (by simp)]; rfl
    have e2 : (#[Value.iface t v] ++ Array.map ρ' c.args).extract 1 (#[Value.iface t v] ++ Array.map ρ' c.args).size = Array.map ρ' c.args := by
     apply Array.ext'
     simp [Array.toList_extract]
     rw [List.take_of_length_le (by simp)]
    simp only [execOp, ho, resolve, hc, hr, Sem.run_bind, Sem.run_pure, Result.andThen_ok, invoke, e0, callMethod, program, Sem.run, hm', e2]
   ·cases h
  ·cases h
 ·exact Zmo hρ ho h w
theorem ZjZ {ι : Ren} {s s' : St} {w : World} {v : Value} {o : Oper} {a : Act} {K : Act → World → Prop} {Q : Exit → Act → World → Prop} (h : Res P ((execOp a.eval o).run P w) s ι w v s')
  (hK : ∀ v' w' ι', Step P ι s.h.get w ι' s'.h.get w' → Dom ι ι' s.n s'.n → VR ι' v v' → K (a.put o.dst v') w') : o.wp P a w K Q := by
 obtain ⟨nx, w', ι', v', hr, hv, h1, h2, h3⟩ := h
 unfold Oper.wp
 try rw [hr]
 rcases hv with rfl | ⟨rfl, rfl⟩
 ·exact hK v' w' ι' h1 h2 h3
 ·exact hK undef w' ι' h1 h2 h3
theorem Ze2 {ι : Ren} {nt : Nat} {args args' : Array Value} (h : VRs ι args args') (hs : args.size ≤ nt) : TR ι nt [] (ZcO 0 args.toList .nil) { tmps := args' ++ Array.replicate (nt - args'.size) undef, defers := [] } := by
 have key : ∀ (l : List Value) (i : Nat) (T : Tr Value) (t : Nat), (ZcO i l T).get t = if i ≤ t ∧ t < i + l.length then l[t - i]? else T.get t := by
  intro l
  induction l with
  | nil => intro i T t; simp only [ZcO]; rw [if_neg (by rintro ⟨h1, h2⟩; simp only [List.length_nil] at h2; omega)]
  | cons v l ih =>
   intro i T t
   simp only [ZcO]
   rw [ih, Tr.get_set]
   by_cases h1 : t = i
   ·subst h1
    rw [if_neg (by omega), Zw, if_pos (by simp)]
    simp
   ·rw [Zm h1]
    by_cases h2 : i + 1 ≤ t ∧ t < i + 1 + l.length
    ·rw [if_pos h2, if_pos (by simp; omega)]
     have : t - i = (t - (i + 1)) + 1 := by omega
     rw [this, List.getElem?_cons_succ]
    ·rw [if_neg h2, if_neg (by simp; omega)]
 refine ⟨by simp [← h.1, hs], rfl, fun t => ?_⟩
 rw [key]
 by_cases ht : t < args.size
 ·have ht' : t < args'.size := by rw [← h.1]; exact ht
  rw [if_pos (by simp [ht])]
  have e1 : args.toList[t - 0]? = some args[t] := by simp [ht]
  rw [e1, Array.getD_eq_getD_getElem?, Array.getElem?_append_left ht', Array.getElem?_eq_getElem ht']
  exact h.2 t _ _ (Array.getElem?_eq_getElem ht) (Array.getElem?_eq_getElem ht')
 ·rw [if_neg (by simp; omega)]
  have ht' : args'.size ≤ t := by rw [← h.1]; omega
  rw [Array.getD_eq_getD_getElem?, Array.getElem?_append_right ht']
  have : (Array.replicate (nt - args'.size) undef)[t - args'.size]?.getD undef = undef := by
   rw [Array.getElem?_replicate]
   split <;> rfl
  rw [this]
  exact VR.undef'

theorem Zkn {c : Code} {Q Q' : Exit → Act → World → Prop} (hq : ∀ e a w, Q e a w → Q' e a w) : ∀ (n : Nat) (a : Act) (w : World), Code.rounds P c Q n a w → Code.rounds P c Q' n a w
 | 0, _, _, h => h
 | n + 1, a, w, h => by
  rw [rounds_succ] at h ⊢
  refine wp_mono h ?_
  intro e a1 w1 h1
  cases e with
  | normal => exact Zkn hq n a1 w1 h1
  | _ => exact hq _ _ _ h1
theorem Step.below {ι : Ren} {h : AH} {w w' : World} (e : Emb P ι h w) (hb : Below w.heap.size w w') : Step P ι h w ι h w' :=
 ⟨fun _ _ h => h, ⟨fun k c t q hk => by
   obtain ⟨b, q1, hz⟩ := e.obj k c t q hk
   exact ⟨b, q1, hz.imp id fun ⟨q0, C, q2, q3⟩ => ⟨q0, C, q2.on (hb.block b.1 (e.lt k b q1)), q3⟩⟩, fun k O hk => by
   obtain ⟨b, q1, q2⟩ := e.ro k O hk
   exact ⟨b, q1, q2.on (hb.block b.1 (e.lt k b q1))⟩, e.inj, fun k b hk => Nat.lt_of_lt_of_le (e.lt k b hk) hb.size, e.marks (fun _ _ h => h) (fun b hlt _ => hb.block b hlt) (fun _ _ _ _ h => h) (fun k d hk hd => .inr ⟨k, d, hk, hd, rfl⟩), e.tb⟩,
  hb.os, hb.tape, hb.output, hb.size, fun b hlt _ => hb.block b hlt, fun k b h1 h2 => (by rw [h1] at h2; cases h2), fun _ h1 _ => h1, fun _ h1 _ => h1⟩
theorem Zcz (F : Fit P ext) : ∀ fu : Nat,
  (∀ nt c T s e T' s', Zal P ext nt fu c T s = some (e, T', s') → (∀ p ∈ s'.ob, p.1 = p.2) → ∀ ι D a w, TR ι nt D T a → Emb P ι s.h.get w → Fresh ι s.n s'.n → c.wp P (ZeU P ι s w nt D e T' s') a w) ∧
  (∀ nt ops l T s T' s', Zhb P ext nt fu ops l T s = some (T', s') → (∀ p ∈ s'.ob, p.1 = p.2) → ∀ ι D a w (Q : Exit → Act → World → Prop), TR ι nt D T a → Emb P ι s.h.get w → Fresh ι s.n s'.n →
   (∀ ι' a' w', Step P ι s.h.get w ι' s'.h.get w' → Dom ι ι' s.n s'.n → TR ι' nt D T' a' → Q .normal a' w') → wpList P ops Q l a w) ∧
  SOp P ext fu ∧
  (∀ f args s v s', ZdE P ext fu f args s = some (v, s') → (∀ p ∈ s'.ob, p.1 = p.2) → ∀ ι w args', VRs ι args args' → Emb P ι s.h.get w → Fresh ι s.n s'.n → Calls P f args' w (ZiT P ι s w v s')) ∧
  (∀ nt c T s e T' s', Zal P ext nt fu (.loop c) T s = some (e, T', s') → (∀ p ∈ s'.ob, p.1 = p.2) → ∀ ι D a w, TR ι nt D T a → Emb P ι s.h.get w → Fresh ι s.n s'.n → Code.rounds P c (ZeU P ι s w nt D e T' s') fu a w) := by
 intro fu
 induction fu using Nat.strongRecOn with
 | _ fu ihs =>
 cases fu with
 | zero => exact ⟨fun _ _ _ _ _ _ _ h => by simp [Zal] at h, fun _ _ _ _ _ _ _ h => by simp [Zhb, St.keep_eq] at h, fun _ _ _ _ _ _ h => by simp [Zf6] at h, fun _ _ _ _ _ h => by simp [ZdE] at h, fun _ _ _ _ _ _ _ h => by simp [Zal] at h⟩
 | succ fu =>
  obtain ⟨ihC, ihO, ihP, ihF, ihL⟩ := ihs fu (Nat.lt_succ_self _)
  obtain ⟨upC, upO, upP, upF, upD, upE⟩ := Zbf (P := P) (ext := ext) (fun f g hg => (F.hp f g hg).up) fu
  have loops : ∀ nt c T s e T' s', Zal P ext nt (fu + 1) (.loop c) T s = some (e, T', s') → (∀ p ∈ s'.ob, p.1 = p.2) → ∀ ι D a w, TR ι nt D T a → Emb P ι s.h.get w → Fresh ι s.n s'.n → Code.rounds P c (ZeU P ι s w nt D e T' s') (fu + 1) a w := by
   intro nt x T s e T' s' h ho ι D a w hT he hf
   simp only [Zal] at h
   rw [rounds_succ]
   split at h
   ·rename_i T1 s1 h1
    have u1 := upC _ _ _ _ _ _ _ h1
    have u2 := upC _ _ _ _ _ _ _ h
    refine wp_mono (ihC nt x T s .normal T1 s1 h1 (Zai u2.ob ho) ι D a w hT he (hf.mono (Nat.le_refl _) u2.n)) ?_
    rintro ex a1 w1 ⟨rfl, ι1, g1, g2, g3⟩
    refine Zkn ?_ fu a1 w1 (ihL nt x T1 s1 e T' s' h ho ι1 D a1 w1 g3 g1.emb (hf.after g2 u1.n))
    rintro ex2 a2 w2 ⟨rfl, ι2, k1, k2, k3⟩
    exact ⟨rfl, ι2, g1.trans k1, g2.trans k2 u1.n u2.n, k3⟩
   ·rename_i i T1 s1 h1
    injection h with h; simp only [Prod.mk.injEq] at h; obtain ⟨rfl, rfl, rfl⟩ := h
    refine wp_mono (ihC nt x T s _ _ _ h1 ho ι D a w hT he hf) ?_
    rintro ex a1 w1 ⟨rfl, hq⟩
    exact ⟨rfl, hq⟩
   ·rename_i T1 s1 h1
    injection h with h; simp only [Prod.mk.injEq] at h; obtain ⟨rfl, rfl, rfl⟩ := h
    refine wp_mono (ihC nt x T s _ _ _ h1 ho ι D a w hT he hf) ?_
    rintro ex a1 w1 ⟨rfl, hq⟩
    exact ⟨rfl, hq⟩
   ·cases h
  refine ⟨fun nt c T s e T' s' h ho ι D a w hT he hf => ?_, fun nt ops l T s T' s' h ho ι D a w Q hT he hf hQ => ?_, fun ρ ρ' o s v s' h ho ι w hρ he hf a K Q hex hK => ?_, fun f args s v s' h ho ι w args' ha he hf => ?_, loops⟩
  ·have base : ZeU P ι s w nt D .normal T s .normal a w ∧ ZeU P ι s w nt D .ret T s .ret a w ∧ ∀ i, ZeU P ι s w nt D (.exit i) T s (.exit i) a w :=
    ⟨⟨rfl, ι, Step.refl he, Dom.refl, hT⟩, ⟨rfl, ι, Step.refl he, Dom.refl, hT⟩, fun i => ⟨rfl, ι, Step.refl he, Dom.refl, hT⟩⟩
   -- one part, then the other
   have chain : ∀ {s1 : St} {T1 : Tr Value} {c2 : Code} {a1 : Act} {w1 : World} {ι1 : Ren}, Up s s1 → Up s1 s' → Step P ι s.h.get w ι1 s1.h.get w1 → Dom ι ι1 s.n s1.n → TR ι1 nt D T1 a1 → Zal P ext nt fu c2 T1 s1 = some (e, T', s') →
     c2.wp P (ZeU P ι s w nt D e T' s') a1 w1 := fun {s1 T1 c2 a1 w1 ι1} u1 u2 h1 h2 h3 h4 => by
    refine wp_mono (ihC nt c2 T1 s1 e T' s' h4 ho ι1 D a1 w1 h3 h1.emb ((hf.mono (Nat.le_refl _) (Nat.le_refl _)).after h2 u1.n)) ?_
    rintro ex a2 w2 ⟨rfl, ι2, g1, g2, g3⟩
    exact ⟨rfl, ι2, (Step.two ⟨h1, h2⟩ ⟨g1, g2⟩ u1.n u2.n).1, (Step.two ⟨h1, h2⟩ ⟨g1, g2⟩ u1.n u2.n).2, g3⟩
   have h0 := h
   cases c <;> simp only [Zal] at h
   case skip => injection h with h; simp only [Prod.mk.injEq] at h; obtain ⟨rfl, rfl, rfl⟩ := h; exact wp_skip base.1
   case label l => injection h with h; simp only [Prod.mk.injEq] at h; obtain ⟨rfl, rfl, rfl⟩ := h; exact wp_label base.1
   case scope c =>
    refine wp_scope_straight (wp_mono (ihC nt c T s e T' s' h ho ι D a w hT he hf) ?_)
    rintro ex a1 w1 ⟨rfl, hq⟩
    cases e <;> exact ⟨rfl, hq⟩
   case ret => injection h with h; simp only [Prod.mk.injEq] at h; obtain ⟨rfl, rfl, rfl⟩ := h; exact wp_ret base.2.1
   case exit id => injection h with h; simp only [Prod.mk.injEq] at h; obtain ⟨rfl, rfl, rfl⟩ := h; exact wp_exit (base.2.2 id)
   case seq x y =>
    split at h
    ·rename_i T1 s1 h1
     have u1 := upC _ _ _ _ _ _ _ h1
     have u2 := upC _ _ _ _ _ _ _ h
     refine wp_seq (wp_mono (ihC nt x T s .normal T1 s1 h1 (Zai u2.ob ho) ι D a w hT he (hf.mono (Nat.le_refl _) u2.n)) ?_)
     rintro ex a1 w1 ⟨rfl, ι1, g1, g2, g3⟩
     exact chain u1 u2 g1 g2 g3 h
    ·rename_i i T1 s1 h1
     injection h with h; simp only [Prod.mk.injEq] at h; obtain ⟨rfl, rfl, rfl⟩ := h
     refine wp_seq (wp_mono (ihC nt x T s _ _ _ h1 ho ι D a w hT he hf) ?_)
     rintro ex a1 w1 ⟨rfl, hq⟩
     exact ⟨rfl, hq⟩
    ·rename_i T1 s1 h1
     injection h with h; simp only [Prod.mk.injEq] at h; obtain ⟨rfl, rfl, rfl⟩ := h
     refine wp_seq (wp_mono (ihC nt x T s _ _ _ h1 ho ι D a w hT he hf) ?_)
     rintro ex a1 w1 ⟨rfl, hq⟩
     exact ⟨rfl, hq⟩
    ·cases h
   case cond x y z =>
    split at h
    ·rename_i t ht
     have hx : a.eval x = .bool t := Zdv ((ht ▸ hT.opnd x : VR ι (.bool t) (Zbj a x)).bool_inv)
     split at h
     ·exact wp_cond_true hx (ihC nt y T s e T' s' h ho ι D a w hT he hf)
     ·exact wp_cond_false hx (ihC nt z T s e T' s' h ho ι D a w hT he hf)
    ·cases h
   case block id x =>
    split at h
    ·rename_i i T1 s1 h1
     cases hb : Nat.beq i id with
     | true =>
      rw [hb] at h
      injection h with h; simp only [Prod.mk.injEq] at h; obtain ⟨rfl, rfl, rfl⟩ := h
      refine wp_block (wp_mono (ihC nt x T s _ _ _ h1 ho ι D a w hT he hf) ?_)
      rintro ex a1 w1 ⟨rfl, hq⟩
      show if i = id then _ else _
      rw [if_pos (Nat.eq_of_beq_eq_true hb)]
      exact ⟨rfl, hq⟩
     | false =>
      rw [hb] at h
      injection h with h; simp only [Prod.mk.injEq] at h; obtain ⟨rfl, rfl, rfl⟩ := h
      refine wp_block (wp_mono (ihC nt x T s _ _ _ h1 ho ι D a w hT he hf) ?_)
      rintro ex a1 w1 ⟨rfl, hq⟩
      show if i = id then _ else _
      rw [if_neg (fun e => by rw [Zhd e] at hb; cases hb)]
      exact ⟨rfl, hq⟩
    ·rename_i T1 s1 h1
     injection h with h; simp only [Prod.mk.injEq] at h; obtain ⟨rfl, rfl, rfl⟩ := h
     refine wp_block (wp_mono (ihC nt x T s _ _ _ h1 ho ι D a w hT he hf) ?_)
     rintro ex a1 w1 ⟨rfl, hq⟩
     exact ⟨rfl, hq⟩
    ·rename_i T1 s1 h1
     injection h with h; simp only [Prod.mk.injEq] at h; obtain ⟨rfl, rfl, rfl⟩ := h
     refine wp_block (wp_mono (ihC nt x T s _ _ _ h1 ho ι D a w hT he hf) ?_)
     rintro ex a1 w1 ⟨rfl, hq⟩
     exact ⟨rfl, hq⟩
    ·cases h
   case loop x =>
    exact wp_loop_rounds (fu + 1) (loops nt x T s e T' s' h0 ho ι D a w hT he hf)
   case region id ops draw =>
    cases draw with
    | true =>
     simp only [cond_true] at h
     split at h
     ·rename_i es T1 s1 h1
      injection h with h; simp only [Prod.mk.injEq] at h; obtain ⟨rfl, rfl, rfl⟩ := h
      exact Zup F (fun fu' hfu => (ihs fu' (by omega)).2.2.1) h1 ho hT he hf fun ι' a' w' g1 g2 g3 => ⟨rfl, ι', g1, g2, g3⟩
     ·cases h
    | false =>
    simp only [cond_false] at h
    split at h
    ·rename_i T1 s1 h1
     injection h with h; simp only [Prod.mk.injEq] at h; obtain ⟨rfl, rfl, rfl⟩ := h
     refine wp_region_list (ihO nt ops ops.toList T s T1 s1 h1 ho ι D a w _ hT he hf fun ι' a' w' g1 g2 g3 => ⟨rfl, ι', g1, g2, g3⟩)
    ·cases h
   all_goals cases h
  ·cases l with
   | nil =>
    simp only [Zhb, St.keep_eq] at h
    injection h with h; simp only [Prod.mk.injEq] at h; obtain ⟨rfl, rfl⟩ := h
    exact hQ ι a w (Step.refl he) Dom.refl hT
   | cons o l =>
    simp only [Zhb, St.keep_eq] at h
    obtain ⟨hg, h⟩ := Zn h
    simp only [Bool.and_eq_true] at hg
    unfold wpList
    split at h
    ·rename_i s1 hw
     split at h
     ·rename_i v s2 hv
      have u1 := ZaD hw
      have u2 := upP _ _ _ _ _ hv
      have u3 := upO _ _ _ _ _ _ _ h
      obtain ⟨hwant, e2, e3⟩ := ZbJ (fun t _ => hT.2.2 t) hw
      rw [if_pos hwant]
      refine .inl (ihP (opnd T) (Zbj a) o s1 v s2 hv (Zai u3.ob ho) ι w hT.opnd (e2 ▸ he) (e3 ▸ (hf.mono (Nat.le_refl _) u3.n)) a _ Q (Zea (ZhH hv) hg.2).symm fun v' w' ι' g1 g2 g3 => ?_)
      rw [e2] at g1
      rw [e3] at g2
      have hle : s.n ≤ s2.n := by rw [← e3]; exact u2.n
      exact ihO nt ops l (Zcr T o.dst v) s2 T' s' h ho ι' D _ w' Q ((hT.on g1.ext).put hg.1 g3) g1.emb (hf.after g2 hle) fun ι2 a2 w2 k1 k2 k3 =>
       hQ ι2 a2 w2 (g1.trans k1) (g2.trans k2 hle u3.n) k3
     ·cases h
    ·rename_i s1 hw
     have u1 := ZaD hw
     have u3 := upO _ _ _ _ _ _ _ h
     obtain ⟨hwant, e2, e3⟩ := ZbJ (fun t _ => hT.2.2 t) hw
     rw [if_neg (by rw [hwant]; simp)]
     refine ihO nt ops l (Zcr T o.dst undef) s1 T' s' h ho ι D _ w Q (hT.put hg.1 VR.undef') (e2 ▸ he) (e3 ▸ hf) fun ι2 a2 w2 k1 k2 k3 => hQ ι2 a2 w2 (e2 ▸ k1) (e3 ▸ k2) k3
    ·cases h
  ·simp only [Zf6] at h
   split at h
   ·rename_i c hc
    obtain ⟨hop, _⟩ := Zn5 hc
    split at h
    ·rename_i f args hcal
     obtain ⟨args', hrun, hargs⟩ := ZqL (P := P) hρ hop hcal w
     rw [← hex] at hrun
     split at h
     ·rename_i kk e hx
      split at h
      ·rename_i z c1 s1 hw
       obtain ⟨e1, e2, _⟩ := ZV hw
       obtain ⟨s2, s3, h4, e3, e4, e5, e6, ho3⟩ := Zuo ho h rfl
       exact ZjZ (((hrun ▸ Zmj F hx hargs (s := s2) (by rw [e3, e1]; exact he) ho3 h4).heap (e3.trans e1).symm (e4.trans e2).symm).behind e5 e6) hK
      ·cases h
      ·rename_i s1 hw
       obtain ⟨e1, e2, _⟩ := ZV hw
       exact ZjZ ((hrun ▸ Zmj F hx hargs (s := s1) (e1 ▸ he) ho h).heap e1.symm e2.symm) hK
     ·rename_i n hx
      exact ZjZ (hrun ▸ Zun F hx hargs he h) hK
     ·rename_i g hx
      have hd := F.hp f g hx
      unfold Oper.wp
      rcases hd.does args s v s' h ho ι w args' hargs he hf with ⟨⟨fn, c', hfn, hb⟩, hcalls⟩ | ⟨v1, w1, hr, v', ι', hv, g1, g2, g3⟩
      ·rw [hrun, Zcc hfn (F.go f fn hfn) hb, Oper.upon_enter]
       refine hcalls.mono ?_
       rintro e2 w2 ⟨v', ι', rfl, g1, g2, g3⟩
       exact hK v' w2 ι' g1 g2 g3
      ·injection hv with hv
       subst hv
       rw [hrun, hr, Oper.upon_value]
       exact hK v1 w1 ι' g1 g2 g3
     ·rename_i S hx
      split at h
      ·rename_i pre u post dn s1 hw
       obtain ⟨e1, e2, _⟩ := ZV hw
       obtain ⟨⟨fn, c', hfn, hb⟩, hS⟩ := F.tc f S hx
       unfold Oper.wp
       rw [hrun, Zcc hfn (F.go f fn hfn) hb, Oper.upon_enter]
       refine (Zum hS h ho hargs (e1 ▸ he) (e2 ▸ hf)).mono ?_
       rintro e2' w2 ⟨v', ι', rfl, g1, g2, g3⟩
       exact hK v' w2 ι' (e1 ▸ g1) (e2 ▸ g2) g3
      ·cases h
     ·rename_i g hx
      unfold ZtT at h
      obtain ⟨hfree, h⟩ := Zn h
      split at h
      ·rename_i v1 hg
       obtain ⟨hfv, h⟩ := Zn h
       injection h with h; injection h with q1 q2; subst q1 q2
       have hae : args' = args := ZeP hargs.1 fun i x y hx1 hy1 => (hargs.2 i x y hx1 hy1).eq_of_free (ZaF hfree i x hx1)
       subst hae
       obtain ⟨⟨fn, c', hfn, hb⟩, hcall⟩ := F.fn f g hx
       unfold Oper.wp
       rw [hrun, Zcc hfn (F.go f fn hfn) hb, Oper.upon_enter]
       refine (hcall args' v1 hfree hg w he.tabw).mono ?_
       rintro e2 w2 ⟨rfl, hbel⟩
       exact hK v1 w2 ι (Step.below he hbel) Dom.refl (VR.of_free hfv)
      ·cases h
     ·have hcalls := ihF f args s v s' h ho ι w args' hargs he hf
      cases fu with
      | zero => simp [ZdE] at h
      | succ fu' =>
       have h' := h
       simp only [ZdE] at h'
       split at h'
       ·rename_i fn hfn
        split at h'
        ·rename_i c' hb
         unfold Oper.wp
         rw [hrun, Zcc hfn (F.go f fn hfn) hb, Oper.upon_enter]
         refine hcalls.mono ?_
         rintro e2 w2 ⟨v', ι', rfl, g1, g2, g3⟩
         exact hK v' w2 ι' g1 g2 g3
        ·cases h'
       ·cases h'
    ·cases h
   ·split at h
    ·rename_i v1 s1 h1
     injection h with h
     obtain ⟨e1, e2, e3⟩ := ZwG h ho
     subst e1
     rw [e2, e3] at hK
     rw [e3] at hf
     have := ZuY hρ he hf (Zai (Ztv h).ob ho) h1
     rw [← hex] at this
     exact ZjZ this hK
    ·cases h
  ·simp only [ZdE] at h
   split at h
   ·rename_i fn hfn
    split at h
    ·rename_i c hb
     obtain ⟨hsz, h⟩ := Zn h
     have hle : args.size ≤ fn.ntmps := Nat.le_of_ble_eq_true hsz
     split at h
     ·cases h
     ·rename_i ex T1 s1 hne h1
      have hs : s' = s1 ∧ (match ZaW P T1 s1 fn.results.toList with | some [v] => some v | some vs => some (.tuple vs.toArray) | none => none) = some v := by
       split at h
       ·rename_i hr; injection h with h; injection h with q1 q2; subst q1 q2; exact ⟨rfl, by first | rw [hr] | rfl⟩
       ·rename_i vs hn hr; injection h with h; injection h with q1 q2; subst q1 q2
        refine ⟨rfl, ?_⟩
        try rw [hr]
        rcases vs with _ | ⟨x, _ | ⟨y, vs⟩⟩
        ·rfl
        ·exact absurd rfl (hn x)
        ·rfl
       ·cases h
      obtain ⟨rfl, hres⟩ := hs
      refine calls_of_wp hfn hb (wp_mono (ihC fn.ntmps c _ s ex T1 s' h1 ho ι [] _ w (Ze2 ha hle) he hf) ?_)
      rintro e2 a2 w2 ⟨rfl, ι2, g1, g2, g3⟩
      obtain ⟨v', hrun, hv⟩ := Zcp g3 g1.emb hres
      cases ex with
      | normal => exact ⟨g3.2.1, v', hrun, v', ι2, rfl, g1, g2, hv⟩
      | ret => exact ⟨g3.2.1, v', hrun, v', ι2, rfl, g1, g2, hv⟩
      | exit i => exact (hne i rfl).elim
     ·cases h
    ·cases h
   ·cases h

theorem Zty {ι : Ren} : VRs ι ([] : List Value).toArray ([] : List Value).toArray := ⟨rfl, fun i x y hx => by simp at hx⟩
theorem ZnO {ι : Ren} {x y : Value} {l l' : List Value} (h : VR ι x y) (t : VRs ι l.toArray l'.toArray) : VRs ι (x :: l).toArray (y :: l').toArray := by
 refine ⟨by simpa using t.1, fun i u v hu hv => ?_⟩
 cases i with
 | zero => simp at hu hv; subst hu hv; exact h
 | succ i => exact t.2 i u v (by simpa using hu) (by simpa using hv)
theorem VRs.of_free {ι : Ren} {args : Array Value} (ha : Z4 Zbv args.toList = true) : VRs ι args args := ⟨rfl, fun i x y hx hy => by rw [hx] at hy; injection hy with hy; subst hy; exact VR.of_free (ZaF ha i x hx)⟩
end
end Ev
end Go.Proofs.YtlbbiflodemagaaDoor
/- Functions with deferred calls. -/
namespace Go.Proofs.YtlbbiflodemagaaDoor
open Go.RowKit
namespace Ev
noncomputable section
def Ztz (o : Oper) : Option Call :=
 match o.op with
 | .defer c => some c
 | _ => none
def Zgy (P : Program) (ext : FuncId → Option Ext) (nt fu : Nat) (ops : Array Oper) : List Oper → Tr Value → St → List (FuncId × Array Value) → Option (Tr Value × St × List (FuncId × Array Value))
 | [], T, s, ds => some (T, s, ds)
 | o :: l, T, s, ds =>
  bif ZdL nt o.dst && Z4 Zew o.op.operands.toList then
   match ZdS ops T o s with
   | some (true, s1) => match Ztz o with
    | some c => match callee (opnd T) c with
     | some (f, args) => Zgy P ext nt fu ops l (Zcr T o.dst undef) s1 ((f, args) :: ds)
     | none => none
    | none => match Zf6 P ext fu (opnd T) o s1 with
     | some (v, s') => Zgy P ext nt fu ops l (Zcr T o.dst v) s' ds
     | none => none
   | some (false, s1) => Zgy P ext nt fu ops l (Zcr T o.dst undef) s1 ds
   | none => none
  else none
def evD (P : Program) (ext : FuncId → Option Ext) (nt : Nat) : Nat → Code → Tr Value → St → List (FuncId × Array Value) → Option (Bool × Tr Value × St × List (FuncId × Array Value))
 | 0, _, _, _, _ => none
 | fu + 1, c, T, s, ds => match c with
  | .seq a b => match evD P ext nt fu a T s ds with
   | some (false, T', s', ds') => evD P ext nt fu b T' s' ds'
   | some (true, T', s', ds') => some (true, T', s', ds')
   | none => none
  | .cond x a b => match opnd T x with
   | .bool t => match t with
    | true => evD P ext nt fu a T s ds
    | false => evD P ext nt fu b T s ds
   | _ => none
  | .region _ ops draw => match draw with
   | true => none
   | false => match Zgy P ext nt fu ops ops.toList T s ds with
    | some (T', s', ds') => some (false, T', s', ds')
    | none => none
  | .skip => some (false, T, s, ds)
  | .ret => some (true, T, s, ds)
  | _ => none
def ZgT (P : Program) (ext : FuncId → Option Ext) (fu : Nat) : List (FuncId × Array Value) → St → Option St
 | [], s => some s
 | d :: ds, s => match ZdE P ext fu d.1 d.2 s with
  | some (_, s') => ZgT P ext fu ds s'
  | none => none
def ZmO (P : Program) (ext : FuncId → Option Ext) (fu : Nat) (f : FuncId) (args : Array Value) (s : St) : Out :=
 match P.funcs[f]? with
 | some fn => match fn.body with
  | some c => bif Nat.ble args.size fn.ntmps then match evD P ext fn.ntmps fu c (ZcO 0 args.toList .nil) s [] with
   | some (_, T, s', ds) => match ZgT P ext fu ds s' with
    | some s2 => match ZaW P T s2 fn.results.toList with
     | some [v] => some (v, s2)
     | some vs => some (.tuple vs.toArray, s2)
     | none => none
    | none => none
   | none => none
   else none
  | none => none
 | none => none
end
section
variable {P : Program} {ext : FuncId → Option Ext}
def DR (ι : Ren) : List (FuncId × Array Value) → List Deferred → Prop
 | [], [] => True
 | d :: ds, x :: D => (∃ b, x.target = .fn (.func d.1) b ∧ VRs ι d.2 (x.args ++ b)) ∧ DR ι ds D
 | _, _ => False
theorem DR.on {ι ι' : Ren} (hi : ∀ k b, ι k = some b → ι' k = some b) : ∀ {ds : List (FuncId × Array Value)} {D : List Deferred}, DR ι ds D → DR ι' ds D
 | [], [], _ => trivial
 | [], _ :: _, h => h.elim
 | _ :: _, [], h => h.elim
 | _ :: _, _ :: _, h => ⟨let ⟨b, h1, h2⟩ := h.1; ⟨b, h1, h2.ext hi⟩, DR.on hi h.2⟩
theorem Ztb {ι : Ren} {ρ ρ' : Operand → Value} {o : Oper} {c : Call} {f : FuncId} {args : Array Value} (hρ : ∀ x, VR ι (ρ x) (ρ' x)) (ho : o.op = .defer c) (h : callee ρ c = some (f, args)) (w : World) :
  ∃ d b, (execOp ρ' o).run P w = .ok (.defer d) w ∧ d.target = .fn (.func f) b ∧ VRs ι args (d.args ++ b) := by
 unfold callee at h
 split at h
 ·rename_i x hx
  split at h
  ·rename_i g a b hg
   injection h with h; injection h with h1 h2; subst h1 h2
   have hv := hg ▸ hρ x
   have : ∃ a' b', ρ' x = .func (.func g) a' b' ∧ VRs ι a a' ∧ VRs ι b b' := by
    generalize ρ' x = x' at hv
    cases hv with
    | atom h =>
     simp [Ev.atom] at h
     obtain ⟨rfl, rfl⟩ := h
     exact ⟨_, _, rfl, ⟨rfl, fun i x y hx => by simp at hx⟩, ⟨rfl, fun i x y hx => by simp at hx⟩⟩
    | func hs ht h1 h2 => exact ⟨_, _, rfl, ⟨hs, h1⟩, ⟨ht, h2⟩⟩
   obtain ⟨a', b', hx', ha, hb⟩ := this
   refine ⟨{ target := .fn (.func g) b', args := a' ++ c.args.map ρ' }, b', ?_, rfl, ZeV (ZeV ha (Zjg hρ c.args)) hb⟩
   simp [execOp, ho, resolve, hx, hx', Deferred.ofValue, Result.andThen, Sem.run]
  ·cases h
 ·cases h
theorem ZkA (F : Fit P ext) {nt fu : Nat} {ops : Array Oper} : ∀ (l : List Oper) (T : Tr Value) (s : St) (ds : List (FuncId × Array Value)) (T' : Tr Value) (s' : St) (ds' : List (FuncId × Array Value)), Zgy P ext nt fu ops l T s ds = some (T', s', ds') → Up s s'
 | [], T, s, ds, T', s', ds', h => by simp only [Zgy] at h; injection h with h; simp only [Prod.mk.injEq] at h; obtain ⟨_, rfl, _⟩ := h; exact Up.refl _
 | o :: l, T, s, ds, T', s', ds', h => by
  simp only [Zgy] at h
  replace h := (Zn h).2
  have uP := (Zbf (P := P) (ext := ext) (fun f g hg => (F.hp f g hg).up) fu).2.2.1
  split at h
  ·split at h
   ·split at h
    ·exact (ZaD (by assumption)).trans (ZkA F l _ _ _ _ _ _ h)
    ·cases h
   ·split at h
    ·exact (ZaD (by assumption)).trans ((uP _ _ _ _ _ (by assumption)).trans (ZkA F l _ _ _ _ _ _ h))
    ·cases h
  ·exact (ZaD (by assumption)).trans (ZkA F l _ _ _ _ _ _ h)
  ·cases h
theorem ZhI (F : Fit P ext) {nt : Nat} : ∀ (fu : Nat) (c : Code) (T : Tr Value) (s : St) (ds : List (FuncId × Array Value)) (r : Bool) (T' : Tr Value) (s' : St) (ds' : List (FuncId × Array Value)), evD P ext nt fu c T s ds = some (r, T', s', ds') → Up s s'
 | 0, _, _, _, _, _, _, _, _, h => by simp [evD] at h
 | fu + 1, c, T, s, ds, r, T', s', ds', h => by
  cases c <;> simp only [evD] at h
  case seq a b =>
   split at h
   ·exact (ZhI F fu _ _ _ _ _ _ _ _ (by assumption)).trans (ZhI F fu _ _ _ _ _ _ _ _ h)
   ·injection h with h; simp only [Prod.mk.injEq] at h; obtain ⟨_, _, rfl, _⟩ := h; exact ZhI F fu _ _ _ _ _ _ _ _ (by assumption)
   ·cases h
  case cond x a b =>
   split at h
   ·split at h
    ·exact ZhI F fu _ _ _ _ _ _ _ _ h
    ·exact ZhI F fu _ _ _ _ _ _ _ _ h
   ·cases h
  case region id ops draw =>
   split at h
   ·cases h
   ·split at h
    ·injection h with h; simp only [Prod.mk.injEq] at h; obtain ⟨_, _, rfl, _⟩ := h; exact ZkA F _ _ _ _ _ _ _ (by assumption)
    ·cases h
  case skip => injection h with h; simp only [Prod.mk.injEq] at h; obtain ⟨_, _, rfl, _⟩ := h; exact Up.refl _
  case ret => injection h with h; simp only [Prod.mk.injEq] at h; obtain ⟨_, _, rfl, _⟩ := h; exact Up.refl _
  all_goals cases h
theorem Zlt (F : Fit P ext) {fu : Nat} : ∀ (ds : List (FuncId × Array Value)) (s s' : St), ZgT P ext fu ds s = some s' → Up s s'
 | [], s, s', h => by simp only [ZgT] at h; injection h with h; subst h; exact Up.refl _
 | d :: ds, s, s', h => by
  simp only [ZgT] at h
  split at h
  ·exact ((Zbf (P := P) (ext := ext) (fun f g hg => (F.hp f g hg).up) fu).2.2.2.1 _ _ _ _ _ (by assumption)).trans (Zlt F ds _ _ h)
  ·cases h
theorem ZiU (F : Fit P ext) {nt fu : Nat} {ops : Array Oper} : ∀ (l : List Oper) (T : Tr Value) (s : St) (ds : List (FuncId × Array Value)) (T' : Tr Value) (s' : St) (ds' : List (FuncId × Array Value)), Zgy P ext nt fu ops l T s ds = some (T', s', ds') → (∀ p ∈ s'.ob, p.1 = p.2) →
  ∀ ι D a w (Q : Exit → Act → World → Prop), TR ι nt D T a → DR ι ds D → Emb P ι s.h.get w → Fresh ι s.n s'.n →
   (∀ ι' D' a' w', Step P ι s.h.get w ι' s'.h.get w' → Dom ι ι' s.n s'.n → TR ι' nt D' T' a' → DR ι' ds' D' → Q .normal a' w') → wpList P ops Q l a w
 | [], T, s, ds, T', s', ds', h, ho, ι, D, a, w, Q, hT, hD, he, hf, hQ => by
  simp only [Zgy] at h
  injection h with h; simp only [Prod.mk.injEq] at h; obtain ⟨rfl, rfl, rfl⟩ := h
  exact hQ ι D a w (Step.refl he) Dom.refl hT hD
 | o :: l, T, s, ds, T', s', ds', h, ho, ι, D, a, w, Q, hT, hD, he, hf, hQ => by
  simp only [Zgy] at h
  obtain ⟨hg, h⟩ := Zn h
  simp only [Bool.and_eq_true] at hg
  unfold wpList
  split at h
  ·rename_i s1 hw
   have u1 := ZaD hw
   obtain ⟨hwant, e2, e3⟩ := ZbJ (fun t _ => hT.2.2 t) hw
   rw [if_pos hwant]
   split at h
   ·rename_i c hc
    have hop : o.op = .defer c := by
     unfold Ztz at hc
     split at hc
     ·rename_i c' h'; injection hc with hc; subst hc; exact h'
     ·cases hc
    split at h
    ·rename_i f args hcal
     obtain ⟨d, b, hrun, h1, h2⟩ := Ztb (P := P) hT.opnd hop hcal w
     rw [Zea (fun cs b e => by rw [hop] at e; cases e) hg.2] at hrun
     refine .inl ?_
     unfold Oper.wp
     rw [hrun, Oper.upon_defer]
     refine ZiU F l _ s1 _ T' s' ds' h ho ι (d :: D) _ w Q ?_ ⟨⟨b, h1, h2⟩, hD⟩ (e2 ▸ he) (e3 ▸ hf) fun ι2 D2 a2 w2 k1 k2 k3 k4 => hQ ι2 D2 a2 w2 (e2 ▸ k1) (e3 ▸ k2) k3 k4
     exact TR.put (a := { a with defers := d :: a.defers }) ⟨hT.1, by rw [hT.2.1], hT.2.2⟩ hg.1 VR.undef'
    ·cases h
   ·split at h
    ·rename_i v s2 hv
     have ua := Zbf (P := P) (ext := ext) (fun f g hg => (F.hp f g hg).up) fu
     have u2 := ua.2.2.1 _ _ _ _ _ hv
     have u3 := ZkA F _ _ _ _ _ _ _ h
     refine .inl ((Zcz F fu).2.2.1 (opnd T) (Zbj a) o s1 v s2 hv (Zai u3.ob ho) ι w hT.opnd (e2 ▸ he) (e3 ▸ (hf.mono (Nat.le_refl _) u3.n)) a _ Q (Zea (ZhH hv) hg.2).symm fun v' w' ι' g1 g2 g3 => ?_)
     rw [e2] at g1
     rw [e3] at g2
     have hle : s.n ≤ s2.n := by rw [← e3]; exact u2.n
     exact ZiU F l (Zcr T o.dst v) s2 ds T' s' ds' h ho ι' D _ w' Q ((hT.on g1.ext).put hg.1 g3) (hD.on g1.ext) g1.emb (hf.after g2 hle) fun ι2 D2 a2 w2 k1 k2 k3 k4 =>
      hQ ι2 D2 a2 w2 (g1.trans k1) (g2.trans k2 hle u3.n) k3 k4
    ·cases h
  ·rename_i s1 hw
   have u1 := ZaD hw
   obtain ⟨hwant, e2, e3⟩ := ZbJ (fun t _ => hT.2.2 t) hw
   rw [if_neg (by rw [hwant]; simp)]
   exact ZiU F l (Zcr T o.dst undef) s1 ds T' s' ds' h ho ι D _ w Q (hT.put hg.1 VR.undef') hD (e2 ▸ he) (e3 ▸ hf) fun ι2 D2 a2 w2 k1 k2 k3 k4 => hQ ι2 D2 a2 w2 (e2 ▸ k1) (e3 ▸ k2) k3 k4
  ·cases h
def PostD (P : Program) (ι : Ren) (s : St) (w : World) (nt : Nat) (r : Bool) (T' : Tr Value) (s' : St) (ds' : List (FuncId × Array Value)) (ex : Exit) (a' : Act) (w' : World) : Prop :=
 ex = (match r with | true => .ret | false => .normal) ∧ ∃ ι' D', Step P ι s.h.get w ι' s'.h.get w' ∧ Dom ι ι' s.n s'.n ∧ TR ι' nt D' T' a' ∧ DR ι' ds' D'
theorem ZgU (F : Fit P ext) {nt : Nat} : ∀ (fu : Nat) (c : Code) (T : Tr Value) (s : St) (ds : List (FuncId × Array Value)) (r : Bool) (T' : Tr Value) (s' : St) (ds' : List (FuncId × Array Value)), evD P ext nt fu c T s ds = some (r, T', s', ds') → (∀ p ∈ s'.ob, p.1 = p.2) →
  ∀ ι D a w, TR ι nt D T a → DR ι ds D → Emb P ι s.h.get w → Fresh ι s.n s'.n → c.wp P (PostD P ι s w nt r T' s' ds') a w
 | 0, _, _, _, _, _, _, _, _, h => by simp [evD] at h
 | fu + 1, c, T, s, ds, r, T', s', ds', h => by
  intro ho ι D a w hT hD he hf
  cases c <;> simp only [evD] at h
  case seq x y =>
   split at h
   ·rename_i T1 s1 ds1 h1
    have u1 := ZhI F fu _ _ _ _ _ _ _ _ h1
    have u2 := ZhI F fu _ _ _ _ _ _ _ _ h
    refine wp_seq (wp_mono (ZgU F fu x T s ds _ T1 s1 ds1 h1 (Zai u2.ob ho) ι D a w hT hD he (hf.mono (Nat.le_refl _) u2.n)) ?_)
    rintro ex a1 w1 ⟨rfl, ι1, D1, g1, g2, g3, g4⟩
    refine wp_mono (ZgU F fu y T1 s1 ds1 r T' s' ds' h ho ι1 D1 a1 w1 g3 g4 g1.emb (hf.after g2 u1.n)) ?_
    rintro ex a2 w2 ⟨rfl, ι2, D2, k1, k2, k3, k4⟩
    exact ⟨rfl, ι2, D2, g1.trans k1, g2.trans k2 u1.n u2.n, k3, k4⟩
   ·rename_i T1 s1 ds1 h1
    injection h with h; simp only [Prod.mk.injEq] at h; obtain ⟨rfl, rfl, rfl, rfl⟩ := h
    refine wp_seq (wp_mono (ZgU F fu x T s ds _ _ _ _ h1 ho ι D a w hT hD he hf) ?_)
    rintro ex a1 w1 ⟨rfl, hq⟩
    exact ⟨rfl, hq⟩
   ·cases h
  case cond x y z =>
   split at h
   ·rename_i t ht
    have hx : a.eval x = .bool t := Zdv ((ht ▸ hT.opnd x : VR ι (.bool t) (Zbj a x)).bool_inv)
    split at h
    ·exact wp_cond_true hx (ZgU F fu y T s ds r T' s' ds' h ho ι D a w hT hD he hf)
    ·exact wp_cond_false hx (ZgU F fu z T s ds r T' s' ds' h ho ι D a w hT hD he hf)
   ·cases h
  case region id ops draw =>
   split at h
   ·cases h
   ·split at h
    ·rename_i T1 s1 ds1 h1
     injection h with h; simp only [Prod.mk.injEq] at h; obtain ⟨rfl, rfl, rfl, rfl⟩ := h
     exact wp_region_list (ZiU F ops.toList T s ds T1 s1 ds1 h1 ho ι D a w _ hT hD he hf fun ι' D' a' w' g1 g2 g3 g4 => ⟨rfl, ι', D', g1, g2, g3, g4⟩)
    ·cases h
  case skip => injection h with h; simp only [Prod.mk.injEq] at h; obtain ⟨rfl, rfl, rfl, rfl⟩ := h; exact wp_skip ⟨rfl, ι, D, Step.refl he, Dom.refl, hT, hD⟩
  case ret => injection h with h; simp only [Prod.mk.injEq] at h; obtain ⟨rfl, rfl, rfl, rfl⟩ := h; exact wp_ret ⟨rfl, ι, D, Step.refl he, Dom.refl, hT, hD⟩
  all_goals cases h
theorem ZwP (F : Fit P ext) {fu : Nat} {f : FuncId} {args args' : Array Value} {s s' : St} {v : Value} (h : ZdE P ext fu f args s = some (v, s')) (ho : ∀ p ∈ s'.ob, p.1 = p.2) {ι : Ren} {w : World} (ha : VRs ι args args') (he : Emb P ι s.h.get w) (hf : Fresh ι s.n s'.n) :
  ∃ fn c, P.funcs[f]? = some fn ∧ fn.body = some c ∧ c.wp P (bodyPost P fn (ZiT P ι s w v s')) { tmps := args' ++ Array.replicate (fn.ntmps - args'.size) undef, defers := [] } w := by
 cases fu with
 | zero => simp [ZdE] at h
 | succ fu =>
  simp only [ZdE] at h
  split at h
  ·rename_i fn hfn
   split at h
   ·rename_i c hb
    obtain ⟨hsz, h⟩ := Zn h
    have hle : args.size ≤ fn.ntmps := Nat.le_of_ble_eq_true hsz
    split at h
    ·cases h
    ·rename_i ex T1 s1 hne h1
     have hs : s' = s1 ∧ (match ZaW P T1 s1 fn.results.toList with | some [v] => some v | some vs => some (.tuple vs.toArray) | none => none) = some v := by
      split at h
      ·rename_i hr; injection h with h; injection h with q1 q2; subst q1 q2; exact ⟨rfl, by first | rw [hr] | rfl⟩
      ·rename_i vs hn hr; injection h with h; injection h with q1 q2; subst q1 q2
       refine ⟨rfl, ?_⟩
       try rw [hr]
       rcases vs with _ | ⟨x, _ | ⟨y, vs⟩⟩
       ·rfl
       ·exact absurd rfl (hn x)
       ·rfl
      ·cases h
     obtain ⟨rfl, hres⟩ := hs
     refine ⟨fn, c, hfn, hb, wp_mono ((Zcz F fu).1 fn.ntmps c _ s ex T1 s' h1 ho ι [] _ w (Ze2 ha hle) he hf) ?_⟩
     rintro e2 a2 w2 ⟨rfl, ι2, g1, g2, g3⟩
     obtain ⟨v', hrun, hv⟩ := Zcp g3 g1.emb hres
     cases ex with
     | normal => exact ⟨g3.2.1, v', hrun, v', ι2, rfl, g1, g2, hv⟩
     | ret => exact ⟨g3.2.1, v', hrun, v', ι2, rfl, g1, g2, hv⟩
     | exit i => exact (hne i rfl).elim
    ·cases h
   ·cases h
  ·cases h
theorem Zn6 (F : Fit P ext) {fu : Nat} {fn : Func} {tmps : Array Value} {R : Ending → World → Prop} : ∀ (ds : List (FuncId × Array Value)) (s s' : St), ZgT P ext fu ds s = some s' → (∀ p ∈ s'.ob, p.1 = p.2) →
  ∀ ι D w, DR ι ds D → Emb P ι s.h.get w → Fresh ι s.n s'.n → (∀ ι' w', Step P ι s.h.get w ι' s'.h.get w' → Dom ι ι' s.n s'.n → Leaves P fn tmps R [] .returning w') → Leaves P fn tmps R D .returning w
 | [], s, s', h, ho, ι, D, w, hD, he, hf, hR => by
  simp only [ZgT] at h
  injection h with h; subst h
  cases D with
  | nil => exact hR ι w (Step.refl he) Dom.refl
  | cons _ _ => exact hD.elim
 | d :: ds, s, s', h, ho, ι, D, w, hD, he, hf, hR => by
  simp only [ZgT] at h
  split at h
  ·rename_i v s1 h1
   cases D with
   | nil => exact hD.elim
   | cons x D =>
    obtain ⟨⟨b, ht, hargs⟩, hD⟩ := hD
    have u1 := (Zbf (P := P) (ext := ext) (fun f g hg => (F.hp f g hg).up) fu).2.2.2.1 _ _ _ _ _ h1
    have u2 := Zlt F ds _ _ h
    obtain ⟨fn', c, hfn, hb, hwp⟩ := ZwP F h1 (Zai u2.ob ho) hargs he (hf.mono (Nat.le_refl _) u2.n)
    refine ⟨by simp, _, _, d.1, x.args ++ b, ht, ?_, ?_⟩
    ·rw [ht]
     exact Zcc hfn (F.go _ _ hfn) hb _ _
    ·refine (callsD_of_wp (u := .returning) hfn hb hwp).mono ?_
     rintro e u' w' ⟨rfl, v', ι', rfl, g1, g2, g3⟩
     exact Zn6 F ds s1 s' h ho ι' D w' (hD.on g1.ext) g1.emb (hf.after g2 u1.n) fun ι2 w2 k1 k2 => hR ι2 w2 (g1.trans k1) (g2.trans k2 u1.n u2.n)
  ·cases h
theorem Zuq (F : Fit P ext) {fu : Nat} {f : FuncId} {fn : Func} {c : Code} (hfn : P.funcs[f]? = some fn) (hb : fn.body = some c) : ZeT P f (ZmO P ext fu f) := by
 refine ⟨fun args s v s' h => ?_, fun args s v s' h ho ι w args' ha he hf => .inl ⟨⟨fn, c, hfn, hb⟩, ?_⟩⟩
 ·unfold ZmO at h
  rw [hfn] at h
  simp only [hb] at h
  replace h := (Zn h).2
  split at h
  ·rename_i r T s1 ds h1
   split at h
   ·rename_i s2 h2
    have u := (ZhI F fu _ _ _ _ _ _ _ _ h1).trans (Zlt F _ _ _ h2)
    split at h
    ·injection h with h; injection h with q1 q2; subst q2; exact u
    ·injection h with h; injection h with q1 q2; subst q2; exact u
    ·cases h
   ·cases h
  ·cases h
 ·unfold ZmO at h
  rw [hfn] at h
  simp only [hb] at h
  obtain ⟨hsz, h⟩ := Zn h
  have hle : args.size ≤ fn.ntmps := Nat.le_of_ble_eq_true hsz
  split at h
  ·rename_i r T s1 ds h1
   split at h
   ·rename_i s2 h2
    have hs : s' = s2 ∧ (match ZaW P T s2 fn.results.toList with | some [v] => some v | some vs => some (.tuple vs.toArray) | none => none) = some v := by
     split at h
     ·rename_i hr; injection h with h; injection h with q1 q2; subst q1 q2; exact ⟨rfl, rfl⟩
     ·rename_i vs hn hr; injection h with h; injection h with q1 q2; subst q1 q2
      exact ⟨rfl, rfl⟩
     ·cases h
    obtain ⟨rfl, hres⟩ := hs
    have u1 := ZhI F fu _ _ _ _ _ _ _ _ h1
    have u2 := Zlt F _ _ _ h2
    refine calls_of_wp_defers hfn hb (wp_mono (ZgU F fu c _ s [] r T s1 ds h1 (Zai u2.ob ho) ι [] _ w (Ze2 ha hle) trivial he (hf.mono (Nat.le_refl _) u2.n)) ?_)
    rintro ex a1 w1 ⟨rfl, ι1, D1, g1, g2, g3, g4⟩
    have key : Leaves P fn a1.tmps (ZiT P ι s w v s') a1.defers .returning w1 := by
     rw [g3.2.1]
     refine Zn6 F ds s1 s' h2 ho ι1 D1 w1 g4 g1.emb (hf.after g2 u1.n) fun ι2 w2 k1 k2 => ?_
     obtain ⟨v', hrun, hv⟩ := Zcp (g3.on k1.ext) k1.emb hres
     exact ⟨v', hrun, v', ι2, rfl, g1.trans k1, g2.trans k2 u1.n u2.n, hv⟩
    cases r <;> exact key
   ·cases h
  ·cases h
end
end Ev
end Go.Proofs.YtlbbiflodemagaaDoor
