/- Part 2. -/
import Derived.Test.YtgjgilibjbodfaaGreatZaa
import Derived.Laws.BytesString
import Derived.LaidEqlPtr
import Derived.Laws.StructEq
import Derived.Laws.LoneSync
import Derived.MapKept
import Derived.WideKeyRuns
import Derived.Lib.ConvBytes
import Derived.Orders
import Derived.LoopN
import Derived.Scope
set_option linter.unusedSimpArgs false
set_option linter.unusedVariables false
/- Each operation of the runner against the model's own: comparisons. -/
namespace Go.Proofs.YtgjgilibjbodfaaGreat
open Go.RowKit
namespace Ev
section
variable {P : Program} {ι : Ren} {w : World} {ρ ρ' : Operand → Value} {s s' : St} {v : Value}

def Zbj : Value → Bool
 | .pointer _ | .slice .. | .nilFunc | .func .. => true
 | _ => false
theorem ZcH {x x' : Value} (h : VR ι x x') (hk : Zbj x = true) : Zbj x' = true := by
 cases h <;> first | exact hk | rfl | (simp [Zbj] at hk)
theorem Zkt {d : Option TypeDesc} {x y : Value} {q : Bool} (h : ZgH d x y = some q) : Zbj x = true ∧ Zbj y = true := by
 unfold ZgH at h
 split at h <;> first | exact ⟨rfl, rfl⟩ | cases h
theorem Zf5 {o : Option AObj} (h : ZcD o = true) : ∃ c t, o = some (.cells c t) ∧ t ≠ u8T := by
 cases o with
 | none => cases h
 | some o => cases o with
  | cells c t q => cases q with
   | false => exact ⟨c, t, rfl, fun e => by subst e; simp [ZcD] at h⟩
   | true => cases h
  | _ => cases h
theorem ZhD {h : Tr AObj} {d : Option TypeDesc} {x y : Value} {q : Bool} (e : Zkn P h d x y = some q) :
  ∃ el k o k' o' i, d = some (.pointer el) ∧ x = .pointer (some ⟨k, o, none⟩) ∧ y = .pointer (some ⟨k', o', none⟩) ∧ P.info? el = some i ∧ Nat.beq i.size 0 = false ∧ Nat.beq k k' = false ∧ ZcD (h.get k) = true ∧ ZcD (h.get k') = true ∧ q = false := by
 unfold Zkn at e
 split at e
 ·split at e
  ·rename_i hi
   obtain ⟨hc, e⟩ := Zh e
   simp only [Bool.and_eq_true, Bool.not_eq_true'] at hc
   injection e with e
   exact ⟨_, _, _, _, _, _, rfl, rfl, rfl, hi, hc.1, hc.2.1, hc.2.2.1, hc.2.2.2, e.symm⟩
  ·cases e
 ·cases e
theorem Zla {α : Type} {b : Bool} {x y : Option α} {z : α} (h : (bif b then x else y) = some z) : (b = true ∧ x = some z) ∨ (b = false ∧ y = some z) := by
 cases b with
 | true => exact .inl ⟨rfl, h⟩
 | false => exact .inr ⟨rfl, h⟩
theorem Zgk {d : Option TypeDesc} {x y : Value} (e : Zho P d x y = true) : ∃ el k o i, d = some (.pointer el) ∧ x = .pointer (some ⟨k, o, none⟩) ∧ y = .pointer (some ⟨k, o, none⟩) ∧ P.info? el = some i := by
 unfold Zho at e
 split at e
 ·split at e
  ·rename_i hi
   simp only [Bool.and_eq_true] at e
   obtain ⟨e1, e2⟩ := e
   obtain rfl := Nat.eq_of_beq_eq_true e1
   obtain rfl := Nat.eq_of_beq_eq_true e2
   exact ⟨_, _, _, _, rfl, rfl, rfl, hi⟩
  ·cases e
 ·cases e
theorem Zgl {h : Tr AObj} {d : Option TypeDesc} {x y : Value} {q : Bool} (e : Zfx P h d x y = some q) : Zbj x = true ∧ Zbj y = true := by
 unfold Zfx at e
 split at e
 ·rename_i hq; exact Zkt hq
 ·rcases Zla e with ⟨hb, _⟩ | ⟨_, e⟩
  ·obtain ⟨_, _, _, _, _, rfl, rfl, _⟩ := Zgk hb
   exact ⟨rfl, rfl⟩
  obtain ⟨_, _, _, _, _, _, _, rfl, rfl, _⟩ := ZhD e
  exact ⟨rfl, rfl⟩
theorem Zf6 {s : St} {t : TypeId} {x y x' y' : Value} {q : Bool} (he : Emb P ι s.h.get w) (hx : VR ι x x') (hy : VR ι y y') (e : Zfx P s.h (P.underlying t) x y = some q) : (Op.equal t x' y').run P w = .ok q w := by
 unfold Zfx at e
 split at e
 ·rename_i hq
  injection e with e
  subst e
  exact Zj4 hx hy hq
 ·rcases Zla e with ⟨hb, e⟩ | ⟨_, e⟩
  ·injection e with e
   subst e
   obtain ⟨el, k, o, i, hu, rfl, rfl, hi⟩ := Zgk hb
   obtain ⟨b, hb1, rfl⟩ := hx.ptr_inv
   obtain ⟨b', hb2, rfl⟩ := hy.ptr_inv
   rw [hb1] at hb2; injection hb2 with hb2; subst hb2
   have key : ∀ d : Nat, (Op.equalIn (d + 1) t (.pointer (some ⟨b.1, o, none⟩)) (.pointer (some ⟨b.1, o, none⟩))).run P w = .ok true w := fun d => by
    simp [Op.equalIn, run_underlying hu, sizeOf, typeInfo, hi, run_sameAddr_same]
   exact key _
  obtain ⟨el, k, o, k', o', i, hu, rfl, rfl, hi, hsz, hk, h1, h2, rfl⟩ := ZhD e
  have ne : k ≠ k' := fun q => by subst q; rw [ZcE rfl] at hk; cases hk
  have hsz : i.size ≠ 0 := fun q => by rw [q] at hsz; cases hsz
  obtain ⟨c1, t1, g1, n1⟩ := Zf5 h1
  obtain ⟨c2, t2, g2, n2⟩ := Zf5 h2
  obtain ⟨b, C, hb, hB, _, _⟩ := he.objF k c1 t1 g1
  obtain ⟨b', C', hb', hB', _, _⟩ := he.objF k' c2 t2 g2
  have hne : b.1 ≠ b'.1 := fun q => ne (he.inj k k' b b' (by rw [g1]; rfl) (by rw [g2]; rfl) hb hb' q)
  cases hx with
  | atom h => simp [Ev.atom] at h
  | ptr hc =>
   rw [hb] at hc; injection hc with hc; subst hc
   cases hy with
   | atom h => simp [Ev.atom] at h
   | ptr hc' =>
    rw [hb'] at hc'; injection hc' with hc'; subst hc'
    have key : ∀ d : Nat, (Op.equalIn (d + 1) t (.pointer (some ⟨b.1, o, none⟩)) (.pointer (some ⟨b'.1, o', none⟩))).run P w = .ok false w := fun d => by
     have hab : (⟨b.1, o, none⟩ : Addr) ≠ ⟨b'.1, o', none⟩ := fun q => hne (congrArg Addr.block q)
     simp [Op.equalIn, run_underlying hu, sizeOf, typeInfo, hi, hsz, run_sameAddr_other w hab (hB.zero n1) (hB'.zero n2)]
    exact key _
theorem ZgR {op : BinOp} {t : TypeId} {x y : Operand} {a b : Value} (ha : Zbj a = true) : (eqGuard op t x y a b).run P w = .ok () w := by
 unfold eqGuard
 cases a <;> first | (simp [Zbj] at ha; done) | skip
 all_goals cases op <;> rfl
theorem Zlb {t : TypeId} {a b : Value} {q : Bool} (ha : Zbj a = true) (hb : Zbj b = true) (h : (Op.equal t a b).run P w = .ok q w) : (binOp .eql t a b).run P w = .ok (.bool q) w := by
 have : binOp .eql t a b = (do pure (.bool (← Op.equal t a b))) := by
  cases a <;> first | (simp [Zbj] at ha; done) | skip
  all_goals cases b <;> first | (simp [Zbj] at hb; done) | rfl
 rw [this]
 simp [h, Result.andThen, Sem.run]
theorem Zlc {t : TypeId} {a b : Value} {q : Bool} (ha : Zbj a = true) (hb : Zbj b = true) (h : (Op.equal t a b).run P w = .ok q w) : (binOp .neq t a b).run P w = .ok (.bool (!q)) w := by
 have : binOp .neq t a b = (do pure (.bool (!(← Op.equal t a b)))) := by
  cases a <;> first | (simp [Zbj] at ha; done) | skip
  all_goals cases b <;> first | (simp [Zbj] at hb; done) | rfl
 rw [this]
 simp [h, Result.andThen, Sem.run]
def Zdv (d : Nat) (e : TypeId) (n : Nat) (xs ys : Array Value) : List Nat → Sem Bool
 | [] => pure true
 | i :: l => do
   let a ← part e xs (i * n)
   let b ← part e ys (i * n)
   let r ← Op.equalIn d e a b
   if (!r) = true then pure false else Zdv d e n xs ys l
theorem Zgh (w : World) (d : Nat) (t e : TypeId) (len : Nat) (i : TypeInfo) (xs ys : Array Value) (ht : P.underlying t = some (.array len e)) (hi : P.info? e = some i) :
  (Op.equalIn (d + 1) t (.agg xs) (.agg ys)).run P w = (Zdv d e i.size xs ys (List.range' 0 len)).run P w := by
 have hs : (sizeOf e : Sem Nat).run P w = .ok i.size w := by
  simp [sizeOf, typeInfo, hi, Result.andThen]
 simp only [Op.equalIn, Sem.run_bind, run_underlying ht, Result.andThen_ok, hs]
 rw [Std.Legacy.Range.forIn_eq_forIn_range']
 simp only [Std.Legacy.Range.size]
 have e1 : (len - 0 + 1 - 1) / 1 = len := by simp
 rw [e1]
 generalize List.range' 0 len = fs
 induction fs generalizing w with
 | nil => simp [Zdv]
 | cons f fs ih =>
  simp only [List.forIn_cons, Zdv, Sem.run_bind, Sem.run_ite]
  generalize (part e xs (f * i.size)).run P w = r1
  cases r1 with
  | ok a w1 =>
   simp only [Result.andThen_ok]
   generalize (part e ys (f * i.size)).run P w1 = r2
   cases r2 with
   | ok b w2 =>
    simp only [Result.andThen_ok]
    generalize (Op.equalIn d e a b).run P w2 = r3
    cases r3 with
    | ok r w3 =>
     cases r
     ·simp only [Result.andThen_ok, Bool.not_false, if_true, Sem.run_pure]
     ·simp only [Result.andThen_ok, Bool.not_true, Bool.false_eq_true, if_false, Sem.run_pure]
      exact ih w3 (by simp [sizeOf, typeInfo, hi, Result.andThen])
    | halt x w3 => simp [Result.andThen]
   | halt x w2 => simp [Result.andThen]
  | halt x w1 => simp [Result.andThen]

def EqOk (P : Program) (ι : Ren) (w : World) (d : Nat) (g : TypeId → Value → Value → Option Bool) : Prop :=
 ∀ t x y x' y' q, VR ι x x' → VR ι y y' → g t x y = some q → (Op.equalIn d t x' y').run P w = .ok q w
theorem ZiE {d : Nat} {g : TypeId → Value → Value → Option Bool} (hg : EqOk P ι w d g) {xs ys xs' ys' : Array Value} (s1 : xs.size = xs'.size) (p1 : ∀ (i : Nat) x y, xs[i]? = some x → xs'[i]? = some y → VR ι x y) (s2 : ys.size = ys'.size) (p2 : ∀ (i : Nat) x y, ys[i]? = some x → ys'[i]? = some y → VR ι x y) :
  ∀ (fs : List Field) (r : Bool), Ziw P g xs ys fs = some r → (Op.eqFields d xs' ys' fs).run P w = .ok r w
 | [], r, h => by simp [Ziw] at h; subst h; rfl
 | f :: fs, r, h => by
  simp only [Ziw] at h
  obtain ⟨hn, h⟩ := (show ∀ {b : Bool} {x : Option Bool} {y : Bool}, (bif b then none else x) = some y → b = false ∧ x = some y from fun {b x y} h => by cases b <;> simp at h; exact ⟨rfl, h⟩) h
  have hname : f.name ≠ "_" := by simpa using hn
  split at h
  ·rename_i a b r' h1 h2 h3
   split at h
   ·rename_i q hq
    injection h with h
    subst h
    obtain ⟨a', e1, v1⟩ := Zbx (w := w) s1 p1 h1
    obtain ⟨b', e2, v2⟩ := Zbx (w := w) s2 p2 h2
    have e3 := hg _ _ _ _ _ _ v1 v2 hq
    have ih := ZiE hg s1 p1 s2 p2 fs r' h3
    simp only [Op.eqFields, hname, ne_eq, not_false_eq_true, if_true, Sem.run_bind, e1, e2, e3, Result.andThen_ok]
    cases q
    ·simp [Sem.run]
    ·simpa using ih
   ·cases h
  ·cases h
theorem ZiF {d : Nat} {g : Value → Value → Option Bool} {e : TypeId} {sz : Nat} (hg : ∀ x y x' y' q, VR ι x x' → VR ι y y' → g x y = some q → (Op.equalIn d e x' y').run P w = .ok q w) {xs ys xs' ys' : Array Value} (s1 : xs.size = xs'.size) (p1 : ∀ (i : Nat) x y, xs[i]? = some x → xs'[i]? = some y → VR ι x y) (s2 : ys.size = ys'.size) (p2 : ∀ (i : Nat) x y, ys[i]? = some x → ys'[i]? = some y → VR ι x y) :
  ∀ (n i : Nat) (r : Bool), Zix P g e sz xs ys n i = some r → (Zdv d e sz xs' ys' (List.range' i n)).run P w = .ok r w
 | 0, i, r, h => by simp [Zix] at h; subst h; rfl
 | n + 1, i, r, h => by
  simp only [Zix] at h
  split at h
  ·rename_i a b r' h1 h2 h3
   split at h
   ·rename_i q hq
    injection h with h
    subst h
    obtain ⟨a', e1, v1⟩ := Zbx (w := w) s1 p1 h1
    obtain ⟨b', e2, v2⟩ := Zbx (w := w) s2 p2 h2
    have e3 := hg _ _ _ _ _ v1 v2 hq
    have ih := ZiF hg s1 p1 s2 p2 n (i + 1) r' h3
    rw [List.range'_succ]
    simp only [Zdv, Sem.run_bind, e1, e2, e3, Result.andThen_ok]
    cases q
    ·simp [Sem.run]
    ·simpa using ih
   ·cases h
  ·cases h
theorem Zhr : ∀ (d k : Nat), EqOk P ι w (d + k) (eqV P d)
 | 0, k => fun t x y x' y' q hx hy h => by simp [eqV] at h
 | d + 1, k => fun t x y x' y' q hx hy h => by
  have ed : d + 1 + k = (d + k) + 1 := by omega
  rw [ed]
  simp only [eqV] at h
  split at h
  ·rename_i k0 kk a k2 b hu
   split at h
   ·rename_i hk
    subst hk
    injection h with h
    subst h
    have e1 := hx.int_inv
    have e2 := hy.int_inv
    subst e1 e2
    exact run_equalIn_int w (d + k) t _ _ a b hu
   ·cases h
  ·rename_i a b hu
   injection h with h
   subst h
   have e1 := hx.bool_inv
   have e2 := hy.bool_inv
   subst e1 e2
   exact run_equalIn_bool' w (d + k) t a b hu
  ·rename_i fs xs ys hu
   obtain ⟨hg, h⟩ := (show ∀ {b : Bool} {x : Option Bool} {y : Bool}, (bif b then none else x) = some y → b = false ∧ x = some y from fun {b x y} h => by cases b <;> simp at h; exact ⟨rfl, h⟩) h
   obtain ⟨xs', rfl, s1, p1⟩ := hx.agg_inv
   obtain ⟨ys', rfl, s2, p2⟩ := hy.agg_inv
   have hfo : P.fieldsOf t = fs := by unfold Program.fieldsOf; rw [hu]
   have e := run_equalIn_struct (P := P) w (d + k) t xs' ys' (by rw [hfo]; exact hu) hg
   rw [hfo] at e
   exact e.trans (ZiE (Zhr d k) s1 p1 s2 p2 fs.toList q h)
  ·rename_i n e xs ys hu
   split at h
   ·rename_i i hi
    obtain ⟨xs', rfl, s1, p1⟩ := hx.agg_inv
    obtain ⟨ys', rfl, s2, p2⟩ := hy.agg_inv
    exact (Zgh w (d + k) t e n i xs' ys' hu hi).trans (ZiF (fun x y x' y' q => Zhr d k e x y x' y' q) s1 p1 s2 p2 n 0 q h)
   ·cases h
  ·cases h
theorem ZdU {t : TypeId} {x y x' y' : Value} {q : Bool} (hx : VR ι x x') (hy : VR ι y y') (h : Zik P t x y = some q) : ∃ xs ys, x' = .agg xs ∧ y' = .agg ys ∧ P.eqGuardType P.depth t = false ∧ (Op.equal t x' y').run P w = .ok q w := by
 unfold Zik at h
 split at h
 ·rename_i xs ys
  obtain ⟨hg, h⟩ := (show ∀ {b : Bool} {x : Option Bool} {y : Bool}, (bif b then none else x) = some y → b = false ∧ x = some y from fun {b x y} h => by cases b <;> simp at h; exact ⟨rfl, h⟩) h
  have e := Zhr (P := P) (w := w) 8 9992 t _ _ _ _ q hx hy h
  obtain ⟨xs', rfl, s1, p1⟩ := hx.agg_inv
  obtain ⟨ys', rfl, s2, p2⟩ := hy.agg_inv
  exact ⟨xs', ys', rfl, rfl, hg, e⟩
 ·cases h
theorem ZjS {t : TypeId} {xs ys : Array Value} {q : Bool} (h : (Op.equal t (.agg xs) (.agg ys)).run P w = .ok q w) : (binOp .eql t (.agg xs) (.agg ys)).run P w = .ok (.bool q) w ∧ (binOp .neq t (.agg xs) (.agg ys)).run P w = .ok (.bool (!q)) w := by
 constructor
 ·show (do pure (.bool (← Op.equal t (.agg xs) (.agg ys))) : Sem Value).run P w = _
  simp [h, Result.andThen, Sem.run]
 ·show (do pure (.bool (!(← Op.equal t (.agg xs) (.agg ys)))) : Sem Value).run P w = _
  simp [h, Result.andThen, Sem.run]
theorem ZhE {op : BinOp} {t : TypeId} {x y : Operand} {xs ys : Array Value} (h : P.eqGuardType P.depth t = false) : (eqGuard op t x y (.agg xs) (.agg ys)).run P w = .ok () w := by
 unfold eqGuard
 cases op <;> first | rfl | (simp [program, Sem.run, h, Result.andThen])
end
section
variable {P : Program} {ι : Ren} {w : World} {ρ ρ' : Operand → Value} {s s' : St} {v : Value}
theorem ZjT {es es' : List MapEntry} (h : kvs es = kvs es') (i : Nat) : (es[i]?).map (fun e => (e.key, e.val)) = (es'[i]?).map (fun e => (e.key, e.val)) := by
 have := congrArg (fun l => l[i]?) h
 simpa [kvs] using this
theorem ZeH {d : TypeDesc} {k : Value} : ∀ {es es' : List MapEntry} (i : Nat), kvs es = kvs es' → Instr.findNow d k es i = Instr.findNow d k es' i
 | [], [], _, _ => rfl
 | [], _ :: _, _, h => by simp [kvs] at h
 | _ :: _, [], _, h => by simp [kvs] at h
 | e :: es, e' :: es', i, h => by
  simp only [kvs, List.map_cons, List.cons.injEq, Prod.mk.injEq] at h
  simp only [Instr.findNow]
  rw [h.1.1, h.1.2, ZeH (i + 1) h.2]
theorem Zku {es es' : List MapEntry} (h : kvs es = kvs es') (i : Nat) (k x : Value) (f g : MapEntry → MapEntry) (hf : ∀ e, (f e).key = k ∧ (f e).val = x) (hg : ∀ e, (g e).key = k ∧ (g e).val = x) : kvs (es.modify i f) = kvs (es'.modify i g) := by
 apply List.ext_getElem?
 intro j
 simp only [kvs, List.getElem?_map, List.getElem?_modify]
 have hj := ZjT h j
 cases h1 : es[j]? <;> cases h2 : es'[j]? <;> rw [h1, h2] at hj <;> simp at hj ⊢
 rename_i a b
 by_cases hij : i = j
 ·simp [hij, (hf a).1, (hf a).2, (hg b).1, (hg b).2]
 ·simp [hij, hj]
theorem ZhF {q : IntKind} {k : Value} : ∀ (l : List MapEntry) (i : Nat) (r : Nat × Value), Instr.findNow (.int q) k l i = some (some r) → ∃ e, l[r.1 - i]? = some e ∧ e.key = k ∧ i ≤ r.1 ∧ ∃ j n, k = .int j n
 | [], i, r, h => by simp [Instr.findNow] at h
 | e :: l, i, r, h => by
  simp only [Instr.findNow] at h
  split at h
  ·rename_i hs
   injection h with h; injection h with h; subst h
   unfold Instr.sameNow at hs
   split at hs
   ·rename_i a b c d hk
    split at hs
    ·injection hs with hs
     rename_i hab
     have := beq_iff_eq.1 hs
     subst this hab
     exact ⟨e, by simp, hk, Nat.le_refl _, _, _, rfl⟩
    ·cases hs
   ·exact absurd ‹TypeDesc.int q = TypeDesc.string› (by simp)
   ·exact absurd ‹TypeDesc.int q = TypeDesc.bool› (by simp)
   ·cases hs
  ·obtain ⟨e', h1, h2, h3, h4⟩ := ZhF l (i + 1) r h
   refine ⟨e', ?_, h2, by omega, h4⟩
   rw [show r.1 - i = (r.1 - (i + 1)) + 1 by omega]
   exact h1
  ·cases h
theorem Zf7 {kt : TypeId} {q : IntKind} (hk : P.underlying kt = some (.int q)) (k : Value) (e : Bool) (n : Nat) : (Instr.checkKey e (n + 1) kt k).run P w = .ok () w := by
 simp only [Instr.checkKey, Sem.run_bind, run_underlying hk, Result.andThen]
 cases k <;> rfl
theorem Zcw {r : Nat} {o : Obj} {es : Array MapEntry} {c : Nat} (hB : w.heap[r]? = some (.map es c)) : (setObj r o).run P w = .ok () { w with heap := w.heap.setIfInBounds r o } ∧ ({ w with heap := w.heap.setIfInBounds r o } : World).heap[r]? = some o ∧ (∀ i, i ≠ r → ({ w with heap := w.heap.setIfInBounds r o } : World).heap[i]? = w.heap[i]?) ∧ ({ w with heap := w.heap.setIfInBounds r o } : World).heap.size = w.heap.size :=
 ⟨Go.MapKept.run_setObj_map o hB, (Go.MapKept.heap_set hB).1, (Go.MapKept.heap_set hB).2, by simp⟩
theorem VR.map_inv {k : Nat} {v' : Value} (h : VR ι (.map (some k)) v') : ∃ b, ι k = some b ∧ v' = .map (some b.1) := by
 cases h with
 | atom h => simp [Ev.atom] at h
 | map h => exact ⟨_, h, rfl⟩
theorem VR.map_none {v' : Value} (h : VR ι (.map none) v') : v' = .map none := h.eq_of_atom rfl
theorem ZcW (he : Emb P ι s.h.get w) {k : Nat} {es : List MapEntry} (h : ZbV s (.map (some k)) = some es) : ∃ (b : Nat × Nat) (es' : Array MapEntry) (c : Nat), ι k = some b ∧ w.heap[b.1]? = some (.map es' c) ∧ kvs es = kvs es'.toList ∧ ∃ O, s.h.get k = some (.ro O true) := by
 simp only [ZbV] at h
 split at h
 ·rename_i a c hk
  injection h with h
  subst h
  obtain ⟨b, hb, ⟨es1, c1, es', c', e1, e2, e3⟩ | ⟨b1, p1, e1, _⟩⟩ := he.ro k _ hk
  rotate_left
  ·cases e1
  injection e1 with e1
  subst e1
  exact ⟨b, es', c', hb, e2, e3, _, hk⟩
 ·cases h
theorem Zkv {t : TypeId} {z : Value} (h : Zin P t = some z) : (zeroValue t).run P w = .ok z w ∧ Zab z = true := by
 unfold Zin at h
 split at h
 ·rename_i i hi
  split at h
  ·rename_i u hu
   obtain ⟨h1, h2⟩ := Zh h
   injection h2 with h2
   subst h2
   exact ⟨by simp [zeroValue, typeInfo, hi, hu, Result.andThen], h1⟩
  ·cases h
 ·cases h
theorem Zj8 {t : TypeId} (h : Ziy P t = true) (v : Value) (e : Bool) (n : Nat) : (Instr.checkKey e (n + 1) t v).run P w = .ok () w := by
 unfold Ziy at h
 split at h
 ·rename_i q hq; exact Zf7 hq v e n
 ·rename_i hq
  simp only [Instr.checkKey, Sem.run_bind, run_underlying hq, Result.andThen]
  cases v <;> rfl
 ·rename_i hq
  simp only [Instr.checkKey, Sem.run_bind, run_underlying hq, Result.andThen]
  cases v <;> rfl
 ·cases h
theorem ZgS {kt : TypeId} (hk : P.underlying kt = some .string) (k : Value) (e : Bool) (n : Nat) : (Instr.checkKey e (n + 1) kt k).run P w = .ok () w := by
 simp only [Instr.checkKey, Sem.run_bind, run_underlying hk, Result.andThen]
 cases k <;> rfl
theorem Zld {t : TypeId} {cs : Array Value} {o : Nat} (h : (ZbR P t cs o).isSome) : ∃ v, (part t cs o).run P w = .ok v w := by
 obtain ⟨v, hv⟩ := Option.isSome_iff_exists.1 h
 unfold ZbR at hv
 split at hv
 ·rename_i m hsh
  obtain ⟨hA, i, hi, him⟩ := ZbW (w := w) hsh
  subst him
  exact ⟨.agg (cs.extract o (o + i.size)), by simp [part, hA, Result.andThen, sizeOf, typeInfo, hi, Sem.run]⟩
 ·rename_i m hsh
  obtain ⟨hA, _⟩ := ZbW (w := w) hsh
  have hlt : o < cs.size := (Array.getElem?_eq_some_iff.1 hv).1
  exact ⟨cs[o], by simp [part, hA, Result.andThen, Sem.run, Array.getElem?_eq_getElem hlt]⟩
 ·cases hv
theorem ZgT {kt : TypeId} {fs : Array Field} (hk : P.underlying kt = some (.struct fs)) {cs : Array Value} (e : Bool) (n : Nat) (h : Zim P cs fs.toList = true) : (Instr.checkKey e (n + 2) kt (.agg cs)).run P w = .ok () w := by
 rw [Instr.checkKey]
 simp only [Sem.run_bind, run_underlying hk, Result.andThen_ok]
 rw [← Array.forIn_toList]
 generalize fs.toList = l at h
 clear hk
 induction l with
 | nil => simp
 | cons f l ih =>
  simp only [Zim, Bool.and_eq_true, Bool.or_eq_true, beq_iff_eq] at h
  simp only [List.forIn_cons, Sem.run_bind, Sem.run_ite]
  rcases h.1 with h1 | h1
  ·simp only [h1, ne_eq, not_true_eq_false, if_false, Sem.run_pure, Result.andThen_ok]
   exact ih h.2
  ·by_cases hn : f.name = "_"
   ·simp only [hn, ne_eq, not_true_eq_false, if_false, Sem.run_pure, Result.andThen_ok]
    exact ih h.2
   ·obtain ⟨v, hv⟩ := Zld (w := w) h1.2
    simp only [hn, ne_eq, not_false_eq_true, if_true, hv, Zj8 h1.1 v e n, Result.andThen_ok, Sem.run_pure]
    exact ih h.2
theorem ZgU {kt : TypeId} {k : Value} (hkf : Zab k = true) : ∀ {es es' : List MapEntry} (i : Nat) {a : Option (Nat × Value)}, kvs es = kvs es' → Zf0 P kt k es i = some a → (Instr.findAsking kt k es' i).run P w = .ok a w
 | [], [], _, a, _, h => by simp only [Zf0] at h; injection h with h; subst h; rfl
 | [], _ :: _, _, _, h, _ => by simp [kvs] at h
 | _ :: _, [], _, _, h, _ => by simp [kvs] at h
 | e :: es, e' :: es', i, a, hkv, h => by
  simp only [kvs, List.map_cons, List.cons.injEq, Prod.mk.injEq] at hkv
  simp only [Zf0] at h
  obtain ⟨hf, h⟩ := Zh h
  have hv := VR.of_free1 (ι := fun _ => none) hf
  have hk := VR.of_free1 (ι := fun _ => none) hkf
  split at h
  ·rename_i hq
   injection h with h
   subst h
   obtain ⟨_, _, _, _, _, hr⟩ := ZdU (w := w) hk hv hq
   rw [Instr.findAsking, ← hkv.1.1, ← hkv.1.2]
   simp [hr, Result.andThen, Sem.run]
  ·rename_i hq
   obtain ⟨_, _, _, _, _, hr⟩ := ZdU (w := w) hk hv hq
   rw [Instr.findAsking, ← hkv.1.1]
   simp only [Sem.run_bind, hr, Result.andThen_ok, Bool.false_eq_true, if_false]
   exact ZgU hkf (i + 1) hkv.2 h
  ·cases h
theorem Zcx {kt : TypeId} {k : Value} {es es' : List MapEntry} {a : Option (Nat × Value)} (hkf : Zab k = true) (hes : kvs es = kvs es') (h : Zb7 P kt k es = some a) : (Instr.findKey kt k es').run P w = .ok a w ∧ ∀ e, (Instr.checkKey e 10000 kt k).run P w = .ok () w := by
 unfold Zb7 at h
 split at h
 ·rename_i q hq
  rw [ZeH 0 hes] at h
  exact ⟨Go.MapKept.run_findKey hq h, fun e => Zf7 hq k e 9999⟩
 ·rename_i hq
  rw [ZeH 0 hes] at h
  exact ⟨Go.MapKept.run_findKey hq h, fun e => ZgS hq k e 9999⟩
 ·rename_i fs hq
  split at h
  ·rename_i cs
   obtain ⟨h1, h⟩ := Zh h
   refine ⟨?_, fun e => ZgT hq e 9998 h1⟩
   rw [run_findKey_eq (w := w) (by rw [hq])]
   exact ZgU hkf 0 hes h
  ·cases h
 ·cases h
theorem ZlU {z : Value} (h : Zab z = true) : ZaA z = true := by
 cases z <;> first | exact h | (simp [Zab, atom] at h)
theorem Zkw {z : Value} {ok : Bool} {r : Option Value} (h1 : Zab z = true) (h2 : ZdA r = true) : ZaA (Zcc z ok r) = true := by
 have h3 : Zab (r.getD z) = true := by cases r with | none => exact h1 | some u => exact h2
 cases ok with
 | false => exact ZlU h3
 | true =>
  show (Zab (r.getD z) && (true && true)) = true
  rw [h3]
  rfl
theorem Zkx {t kt et : TypeId} {z k : Value} {ok : Bool} {r : Option (Nat × Value)} (hkf : Zab k = true) (hm : P.underlying t = some (.map kt et)) (hz : (zeroValue et).run P w = .ok z w) (hr : Zb7 P kt k [] = some r) :
  (Instr.lookup t (.map none) k ok).run P w = .ok (Zcc z ok (r.map (·.2))) w := by
 obtain ⟨ha, hc⟩ := Zcx (w := w) (es' := []) hkf rfl hr
 simp only [Instr.lookup, Sem.run_bind, Sem.run, run_underlying hm, Result.andThen, hc, ha, Sem.run_pure]
 cases r with
 | none => cases ok <;> simp [Zcc, hz, Result.andThen, Sem.run]
 | some a => cases ok <;> simp [Zcc, Result.andThen, Sem.run]
theorem Zky {t kt et : TypeId} {z k : Value} {ok : Bool} {r : Option (Nat × Value)} {b : Nat} {es : List MapEntry} {es' : Array MapEntry} {c : Nat} (hkf : Zab k = true) (hm : P.underlying t = some (.map kt et)) (hz : (zeroValue et).run P w = .ok z w) (hB : w.heap[b]? = some (.map es' c)) (hkv : kvs es = kvs es'.toList) (hr : Zb7 P kt k es = some r) :
  (Instr.lookup t (.map (some b)) k ok).run P w = .ok (Zcc z ok (r.map (·.2))) w := by
 obtain ⟨ha, hc⟩ := Zcx (w := w) hkf hkv hr
 simp only [Instr.lookup, Sem.run_bind, Sem.run, run_underlying hm, Result.andThen, Go.MapKept.run_getObj_map hB, hc, ha, Sem.run_pure]
 cases r with
 | none => cases ok <;> simp [Zcc, hz, Result.andThen, Sem.run]
 | some a => cases ok <;> simp [Zcc, Result.andThen, Sem.run]
theorem Zf8 {o : Oper} {t : TypeId} {x ix : Operand} {ok : Bool} (ho : o.op = .lookup t x ix ok) (hρ : ∀ x, VR ι (ρ x) (ρ' x)) (he : Emb P ι s.h.get w) (h : Zb8 P ρ t x ix ok s = some (v, s')) :
  s' = s ∧ Res P ((execOp ρ' o).run P w) s ι w v s' := by
 unfold Zb8 at h
 split at h
 ·rename_i kt et hm
  split at h
  ·rename_i z es hz hes
   obtain ⟨hat, h⟩ := Zh h
   split at h
   ·rename_i r hr
    obtain ⟨hfr, h⟩ := Zh h
    injection h with h
    injection h with h1 h2
    subst h1 h2
    refine ⟨rfl, ?_⟩
    have hix : ρ' ix = ρ ix := (hρ ix).eq_of_free1 hat
    obtain ⟨hz1, hz2⟩ := Zkv (w := w) hz
    refine Res.same he (v' := Zcc z ok (r.map (·.2))) ?_ (VR.of_free (Zkw hz2 hfr))
    have key : (Instr.lookup t (ρ' x) (ρ' ix) ok).run P w = .ok (Zcc z ok (r.map (·.2))) w := by
     rw [hix]
     cases hx : ρ x with
     | map m =>
      have hv := hx ▸ hρ x
      cases m with
      | none =>
       rw [hv.map_none]
       rw [hx] at hes
       injection hes with hes
       subst hes
       exact Zkx hat hm hz1 hr
      | some k =>
       obtain ⟨b, hb, hx'⟩ := hv.map_inv
       rw [hx] at hes
       obtain ⟨b2, es', c, hb2, hB, hkv, _⟩ := ZcW he hes
       rw [hb] at hb2; injection hb2 with hb2; subst hb2
       rw [hx']
       exact Zky hat hm hz1 hB hkv hr
     | _ => rw [hx] at hes; simp [ZbV] at hes
    simp [execOp, ho, key, Result.andThen, Sem.run]
   ·cases h
  ·cases h
 ·cases h
theorem Zf9 {o : Oper} {t : TypeId} {m k x : Operand} (ho : o.op = .mapUpdate t m k x) (hρ : ∀ x, VR ι (ρ x) (ρ' x)) (he : Emb P ι s.h.get w) (h : Zb9 P ρ t m k x s = some (v, s')) :
  Res P ((execOp ρ' o).run P w) s ι w v s' := by
 unfold Zb9 at h
 split at h
 ·rename_i kt et b0 hm hmm
  split at h
  ·rename_i es hes
   obtain ⟨hat, h⟩ := Zh h
   simp only [Bool.and_eq_true] at hat
   split at h
   ·rename_i l hl
    injection h with h
    injection h with h1 h2
    subst h1 h2
    have hk' : ρ' k = ρ k := (hρ k).eq_of_free1 hat.1
    have hx' : ρ' x = ρ x := (hρ x).eq_of_free1 hat.2
    obtain ⟨b, hb, hm'⟩ := (hmm ▸ hρ m).map_inv
    obtain ⟨b2, es', c, hb2, hB, hkv, O, hO⟩ := ZcW he hes
    rw [hb] at hb2; injection hb2 with hb2; subst hb2
    have main : ∃ (es2 : Array MapEntry) (c2 : Nat), (Instr.mapUpdate t (ρ' m) (ρ' k) (ρ' x)).run P w = .ok () { w with heap := w.heap.setIfInBounds b.1 (.map es2 c2) } ∧ kvs l = kvs es2.toList := by
     rw [hm', hk', hx']
     unfold putM at hl
     split at hl
     ·rename_i hf
      obtain ⟨hf, hc⟩ := Zcx (w := w) hat.1 hkv hf
      injection hl with hl
      subst hl
      refine ⟨es'.push { key := ρ k, val := ρ x, born := c }, c + 1, ?_, by simp [kvs] at hkv ⊢; exact hkv⟩
      simp [Instr.mapUpdate, run_underlying hm, Result.andThen, Go.MapKept.run_getObj_map hB, hc, hf, (Zcw hB).1]
     ·rename_i r hf
      obtain ⟨hf, hc⟩ := Zcx (w := w) hat.1 hkv hf
      obtain ⟨hb, hl⟩ := Zh hl
      injection hl with hl
      subst hl
      have hkey : ((es'[r.1]?).map (·.key)).getD (ρ k) = ((es[r.1]?).map (·.key)).getD (ρ k) := by
       have := ZjT hkv r.1
       rw [show es'.toList[r.1]? = es'[r.1]? from by simp] at this
       have h2 := congrArg (Option.map (·.1)) this
       simp only [Option.map_map] at h2
       have e : ∀ o : Option MapEntry, o.map ((fun x : Value × Value => x.1) ∘ fun e => (e.key, e.val)) = o.map (·.key) := fun o => by cases o <;> rfl
       rw [e, e] at h2
       rw [h2]
      have hst : (Instr.keyThatStays (((es[r.1]?).map (·.key)).getD (ρ k)) (ρ k)).run P w = .ok (ρ k) w := by
       simp [Instr.keyThatStays, hb, Sem.run]
      refine ⟨es'.modify r.1 fun e => { e with key := ρ k, val := ρ x }, c, ?_, ?_⟩
      ·simp [Instr.mapUpdate, run_underlying hm, Result.andThen, Go.MapKept.run_getObj_map hB, hc, hf, hkey, hst, (Zcw hB).1]
      ·rw [Array.toList_modify]
       exact Zku hkv _ (ρ k) (ρ x) _ _ (fun e => ⟨rfl, rfl⟩) (fun e => ⟨rfl, rfl⟩)
     ·cases hl
    obtain ⟨es2, c2, hrun, hkv2⟩ := main
    obtain ⟨_, q1, q2, q3⟩ := Zcw (P := P) (o := .map es2 c2) hB
    refine ⟨.skip, { w with heap := w.heap.setIfInBounds b.1 (.map es2 c2) }, ι, undef, ?_, .inr ⟨rfl, rfl⟩, ?_, Dom.refl, VR.of_free rfl⟩
    ·simp [execOp, ho, hrun, Result.andThen, Sem.run]
    ·show Step P ι s.h.get w ι (s.h.set b0 (some (.ro (.map l.toArray 0) true))).get _
     rw [Tr.get_set]
     exact Step.storeM he hO hb (.inl ⟨_, _, es2, c2, rfl, q1, by simpa using hkv2⟩) q2 q3 rfl rfl rfl
   ·cases h
  ·cases h
 ·cases h
theorem ZhG : ∀ {es es' : List MapEntry} (h : kvs es = kvs es') (i : Nat), kvs (es.eraseIdx i) = kvs (es'.eraseIdx i)
 | [], [], _, _ => rfl
 | [], _ :: _, h, _ => by simp [kvs] at h
 | _ :: _, [], h, _ => by simp [kvs] at h
 | e :: es, e' :: es', h, 0 => by
  simp only [kvs, List.map_cons, List.cons.injEq] at h
  exact h.2
 | e :: es, e' :: es', h, i + 1 => by
  simp only [kvs, List.map_cons, List.cons.injEq] at h
  have := ZhG h.2 i
  simp only [kvs] at this
  simp only [List.eraseIdx_cons_succ, kvs, List.map_cons, h.1, this]
theorem ZiG {t t2 ty : TypeId} {x x' k k' : Value} (hx : VR ι x x') (hk : VR ι k k') (he : Emb P ι s.h.get w) (h : ZdB P s t x k = some (v, s')) :
  ∃ w', (Builtin.delete_ #[t, t2] ty #[x', k']).run P w = .ok (.tuple #[]) w' ∧ Step P ι s.h.get w ι s'.h.get w' ∧ s'.n = s.n ∧ v = .tuple #[] := by
 unfold ZdB at h
 split at h
 ·rename_i kt et b0 hm
  split at h
  ·rename_i es hes
   obtain ⟨hkf, h⟩ := Zh h
   have hk' : k' = k := hk.eq_of_free1 hkf
   obtain ⟨b, hb, hx'⟩ := hx.map_inv
   obtain ⟨b2, es', c, hb2, hB, hkv, O, hO⟩ := ZcW he hes
   rw [hb] at hb2; injection hb2 with hb2; subst hb2
   split at h
   ·rename_i r hf
    obtain ⟨hf, hc⟩ := Zcx (w := w) hkf hkv hf
    injection h with h
    injection h with h1 h2
    subst h1 h2
    obtain ⟨q0, q1, q2, q3⟩ := Zcw (P := P) (o := .map (es'.eraseIdxIfInBounds r.1) c) hB
    refine ⟨{ w with heap := w.heap.setIfInBounds b.1 (.map (es'.eraseIdxIfInBounds r.1) c) }, ?_, ?_, rfl, rfl⟩
    ·rw [hx', hk']
     simp [Builtin.delete_, run_underlying hm, Result.andThen, Sem.run, Go.MapKept.run_getObj_map hB, hc, hf, q0]
    ·show Step P ι s.h.get w ι (s.h.set b0 (some (.ro (.map (es.eraseIdx r.1).toArray 0) true))).get _
     rw [Tr.get_set]
     refine Step.storeM he hO hb (.inl ⟨_, _, _, c, rfl, q1, ?_⟩) q2 q3 rfl rfl rfl
     have : (es'.eraseIdxIfInBounds r.1).toList = es'.toList.eraseIdx r.1 := by
      unfold Array.eraseIdxIfInBounds
      split
      ·rw [Array.toList_eraseIdx]
      ·rename_i hi
       rw [List.eraseIdx_of_length_le (by simpa using hi)]
     rw [this]
     simpa using ZhG hkv r.1
   ·rename_i hf
    obtain ⟨hf, hc⟩ := Zcx (w := w) hkf hkv hf
    injection h with h
    injection h with h1 h2
    subst h1 h2
    obtain ⟨q0, q1, q2, q3⟩ := Zcw (P := P) (o := .map es' c) hB
    refine ⟨{ w with heap := w.heap.setIfInBounds b.1 (.map es' c) }, ?_, ?_, rfl, rfl⟩
    ·rw [hx', hk']
     simp [Builtin.delete_, run_underlying hm, Result.andThen, Sem.run, Go.MapKept.run_getObj_map hB, hc, hf, q0]
    ·show Step P ι s.h.get w ι (s.h.set b0 (some (.ro (.map es.toArray 0) true))).get _
     rw [Tr.get_set]
     exact Step.storeM he hO hb (.inl ⟨_, _, _, c, rfl, q1, by simpa using hkv⟩) q2 q3 rfl rfl rfl
   ·cases h
  ·cases h
 ·cases h
theorem ZiH {t kt et ty : TypeId} {b0 : Nat} {x' : Value} {es : List MapEntry} (hm : P.underlying t = some (.map kt et)) (hx : VR ι (.map (some b0)) x') (he : Emb P ι s.h.get w) (hes : ZbV s (.map (some b0)) = some es) : (Builtin.len_ #[t] ty #[x']).run P w = .ok (goInt es.length) w := by
 obtain ⟨b, hb, hx'⟩ := hx.map_inv
 obtain ⟨b2, es', c, hb2, hB, hkv, O, hO⟩ := ZcW he hes
 rw [hb] at hb2; injection hb2 with hb2; subst hb2
 have hl : es.length = es'.size := by
  have := congrArg List.length hkv
  simpa [kvs] using this
 rw [hx']
 simp [Builtin.len_, run_underlying hm, Result.andThen, Sem.run, Go.MapKept.run_getObj_map hB, hl]
theorem Zj9 {o : Oper} {t : TypeId} {x : Operand} (ho : o.op = .range t x) (hρ : ∀ x, VR ι (ρ x) (ρ' x)) (he : Emb P ι s.h.get w) (hf : Fresh ι s.n s'.n) (h : Zeu P ρ t x s = some (v, s')) :
  Res P ((execOp ρ' o).run P w) s ι w v s' := by
 unfold Zeu at h
 split at h
 ·rename_i b hu hx
  injection h with h
  injection h with h1 h2
  subst h1 h2
  have hx' : ρ' x = .string b := (hx ▸ hρ x).eq_of_atom rfl
  have st := Step.allocM he (Nat.lt_of_lt_of_le (Nat.lt_succ_self _) hf.1) (hf.2 s.n (Nat.le_refl _) (Nat.lt_succ_self _)) (O := .stringIter b 0) (O' := .stringIter b 0) (.inr ⟨_, _, rfl, rfl⟩) 0
  refine ⟨.value (.pointer (some ⟨w.heap.size, 0, none⟩)), w.alloc (.stringIter b 0), upd ι s.n (some (w.heap.size, 0)), .pointer (some ⟨w.heap.size, 0, none⟩), ?_, .inl rfl, ?_, Dom.one, .ptr (b := (w.heap.size, 0)) Zl⟩
  ·simp [execOp, ho, Instr.range, run_underlying hu, hx', newObj, Result.andThen, Sem.run]
  ·show Step P ι s.h.get w _ (s.h.set s.n (some (.ro (.stringIter b 0) true))).get _
   rw [Tr.get_set]
   exact st
 ·cases h
theorem Zkz {o : Oper} {it : Operand} {q : Bool} (ho : o.op = .next it q) (hρ : ∀ x, VR ι (ρ x) (ρ' x)) (he : Emb P ι s.h.get w) (h : Zf1 ρ it q s = some (v, s')) :
  Res P ((execOp ρ' o).run P w) s ι w v s' := by
 unfold Zf1 at h
 split at h
 ·rename_i k hx
  split at h
  ·rename_i b p hk
   obtain ⟨q0, hq, hR⟩ := he.ro k _ hk
   have hB : w.heap[q0.1]? = some (.stringIter b p) := by
    rcases hR with ⟨_, _, _, _, e, _⟩ | ⟨_, _, _, e⟩
    ·cases e
    ·exact e
   obtain ⟨q1, hq1, hit⟩ := (hx ▸ hρ it).ptr_inv
   rw [hq] at hq1; injection hq1 with hq1; subst hq1
   split at h
   ·rename_i hlt
    injection h with h
    injection h with h1 h2
    subst h1 h2
    refine ⟨.value (.tuple #[.bool true, goInt p, .int .i32 (Utf8.decode b p).1]), { w with heap := w.heap.setIfInBounds q0.1 (.stringIter b (p + (Utf8.decode b p).2)) }, ι, .tuple #[.bool true, goInt p, .int .i32 (Utf8.decode b p).1], ?_, .inl rfl, ?_, Dom.refl, VR.of_free rfl⟩
    ·simp [execOp, ho, Instr.next, hit, Sem.run, Result.andThen, getObj, setObj, hB, hlt]
    ·show Step P ι s.h.get w ι (s.h.set k (some (.ro (.stringIter b (p + (Utf8.decode b p).2)) true))).get _
     rw [Tr.get_set]
     have hl : q0.1 < w.heap.size := (Array.getElem?_eq_some_iff.1 hB).1
     exact Step.storeM he hk hq (.inr ⟨_, _, rfl, by simp [hl]⟩) (fun i hi => by simp [Array.getElem?_setIfInBounds, Ne.symm hi]) (by simp) rfl rfl rfl
   ·rename_i hlt
    injection h with h
    injection h with h1 h2
    subst h1 h2
    refine Res.same he (v' := .tuple #[.bool false]) ?_ (VR.of_free rfl)
    simp [execOp, ho, Instr.next, hit, Sem.run, Result.andThen, getObj, hB, hlt]
  ·cases h
 ·cases h
theorem Zid {o : Oper} {t : TypeId} {r : Option Operand} (ho : o.op = .makeMap t r) (hρ : ∀ x, VR ι (ρ x) (ρ' x)) (he : Emb P ι s.h.get w) (hf : Fresh ι s.n s'.n) (h : ZcT P ρ t r s = some (v, s')) :
  Res P ((execOp ρ' o).run P w) s ι w v s' := by
 have main : ∀ (hr : (Instr.makeMap t (r.map ρ')).run P w = .ok (.map (some w.heap.size)) (w.alloc (.map #[] 0))) (_ : v = .map (some s.n)) (_ : s' = s.addM (.map #[] 0)), Res P ((execOp ρ' o).run P w) s ι w v s' := by
  rintro hr rfl rfl
  have st := Step.allocM he (Nat.lt_of_lt_of_le (Nat.lt_succ_self _) hf.1) (hf.2 s.n (Nat.le_refl _) (Nat.lt_succ_self _)) (O := .map #[] 0) (O' := .map #[] 0) (.inl ⟨_, _, _, _, rfl, rfl, rfl⟩) 0
  refine ⟨.value (.map (some w.heap.size)), w.alloc (.map #[] 0), upd ι s.n (some (w.heap.size, 0)), .map (some w.heap.size), ?_, .inl rfl, ?_, Dom.one, .map (b := (w.heap.size, 0)) Zl⟩
  ·simp [execOp, ho, hr, Result.andThen, Sem.run]
  ·show Step P ι s.h.get w _ (s.h.set s.n (some (.ro (.map #[] 0) true))).get _
   rw [Tr.get_set]
   exact st
 unfold ZcT at h
 split at h
 ·injection h with h
  injection h with h1 h2
  exact main (by simp [Instr.makeMap, newObj, Result.andThen, Sem.run]) h1.symm h2.symm
 ·rename_i x
  split at h
  ·rename_i kt et kk n hm hx
   injection h with h
   injection h with h1 h2
   have := (hx ▸ hρ x).int_inv
   exact main (by simp [Instr.makeMap, newObj, Result.andThen, Sem.run, run_underlying hm, this, asInt, asIntOf]) h1.symm h2.symm
  ·cases h
theorem ZjA {t ty : TypeId} {x x' : Value} (hx : VR ι x x') (he : Emb P ι s.h.get w) (h : Zev P s t x = some (v, s')) :
  ∃ w', (Builtin.clear_ #[t] ty #[x']).run P w = .ok (.tuple #[]) w' ∧ Step P ι s.h.get w ι s'.h.get w' ∧ s'.n = s.n ∧ v = .tuple #[] := by
 unfold Zev at h
 split at h
 ·rename_i kt et hm
  injection h with h
  injection h with h1 h2
  subst h1 h2
  refine ⟨w, ?_, Step.refl he, rfl, rfl⟩
  rw [hx.map_none]
  simp [Builtin.clear_, run_underlying hm, Result.andThen, Sem.run]
 ·rename_i kt et b0 hm
  split at h
  ·rename_i es hes
   injection h with h
   injection h with h1 h2
   subst h1 h2
   obtain ⟨b, hb, hx'⟩ := hx.map_inv
   obtain ⟨b2, es', c, hb2, hB, hkv, O, hO⟩ := ZcW he hes
   rw [hb] at hb2; injection hb2 with hb2; subst hb2
   obtain ⟨q0, q1, q2, q3⟩ := Zcw (P := P) (o := .map #[] c) hB
   refine ⟨{ w with heap := w.heap.setIfInBounds b.1 (.map #[] c) }, ?_, ?_, rfl, rfl⟩
   ·rw [hx']
    simp [Builtin.clear_, run_underlying hm, Result.andThen, Sem.run, Go.MapKept.run_getObj_map hB, q0]
   ·show Step P ι s.h.get w ι (s.h.set b0 (some (.ro (.map #[] 0) true))).get _
    rw [Tr.get_set]
    exact Step.storeM he hO hb (.inl ⟨_, _, #[], c, rfl, q1, rfl⟩) q2 q3 rfl rfl rfl
  ·cases h
 ·cases h
theorem ZjB {kt : TypeId} {q : IntKind} (hk : P.underlying kt = some (.int q)) {k : Value} {es : List MapEntry} {r : Option Value} (h : Zil q k es = some r) : ∃ a, Zb7 P kt k es = some a ∧ a.map (·.2) = r := by
 unfold Zil at h
 unfold Zb7
 rw [hk]
 split at h
 ·rename_i a ha
  injection h with h
  subst h
  exact ⟨some a, ha, rfl⟩
 ·rename_i ha
  injection h with h
  subst h
  exact ⟨none, ha, rfl⟩
 ·cases h
theorem Zle {kt : TypeId} {q : IntKind} (hk : P.underlying kt = some (.int q)) {k x : Value} {es l : List MapEntry} (h : Zko q k x es = some l) : putM P kt k x es = some l := by
 have hf : Zb7 P kt k es = Instr.findNow (.int q) k es 0 := by unfold Zb7; rw [hk]
 unfold Zko at h
 unfold putM
 rw [hf]
 split at h
 ·rename_i ha
  first | exact h | (rw [ha]; exact h)
 ·rename_i r ha
  obtain ⟨e, g1, g2, _, j, n, g3⟩ := ZhF _ _ _ ha
  have hkey : ((es[r.1]?).map (·.key)).getD k = k := by
   have : es[r.1]? = some e := by simpa using g1
   rw [this]
   exact g2
  first | rw [ha] | skip
  show (bif Instr.sameBits 10000 (((es[r.1]?).map (·.key)).getD k) k then _ else none) = _
  rw [hkey, g3]
  simp only [Instr.sameBits, beq_self_eq_true, Bool.and_self, cond_true]
  rw [← g3]
  exact h
 ·cases h
theorem Zk0 {t : TypeId} {x ix : Operand} {ok : Bool} {r : Option Value} (hob : ∀ p ∈ s'.ob, p.1 = p.2) (h : ZcR P ρ t x ix ok r s = some (v, s')) : ∃ s1, Zb8 P ρ t x ix ok s = some (v, s1) ∧ s'.h = s1.h ∧ s'.n = s1.n := by
 unfold ZcR at h
 split at h
 ·rename_i kt et hm
  split at h
  ·rename_i q z es hk hz hes
   obtain ⟨hat, h⟩ := Zh h
   simp only [Bool.and_eq_true] at hat
   injection h with h
   injection h with h1 h2
   subst h1 h2
   have := Z1.1 (hob _ (List.mem_cons_self (a := (dP (Zil q (ρ ix) es = some r), true))))
   obtain ⟨a, ha, rfl⟩ := ZjB hk this
   refine ⟨s, ?_, rfl, rfl⟩
   have hf1 : Zab (ρ ix) = true := by
    have := hat.1
    cases hx : ρ ix <;> rw [hx] at this <;> first | exact this | (simp [atom] at this)
   simp only [Zb8, hm, hz, hes, hf1, ha, hat.2, cond_true]
  ·rename_i fs z es hk hz hes
   obtain ⟨hat, h⟩ := Zh h
   simp only [Bool.and_eq_true] at hat
   injection h with h
   injection h with h1 h2
   subst h1 h2
   have := Z1.1 (hob _ (List.mem_cons_self (a := (dP ((Zb7 P kt (ρ ix) es).map (Option.map Prod.snd) = some r), true))))
   obtain ⟨a, ha, rfl⟩ := Option.map_eq_some_iff.1 this
   refine ⟨s, ?_, rfl, rfl⟩
   have hf2 : ZdA (a.map (·.2)) = true := hat.2
   simp only [Zb8, hm, hz, hes, hat.1, ha, hf2, cond_true]
  ·rename_i z es hk hz hes
   obtain ⟨hat, h⟩ := Zh h
   simp only [Bool.and_eq_true] at hat
   injection h with h
   injection h with h1 h2
   subst h1 h2
   have := Z1.1 (hob _ (List.mem_cons_self (a := (dP ((Zb7 P kt (ρ ix) es).map (Option.map Prod.snd) = some r), true))))
   obtain ⟨a, ha, rfl⟩ := Option.map_eq_some_iff.1 this
   refine ⟨s, ?_, rfl, rfl⟩
   have hf2 : ZdA (a.map (·.2)) = true := hat.2
   simp only [Zb8, hm, hz, hes, hat.1, ha, hf2, cond_true]
  ·cases h
 ·cases h
theorem Zk1 {t : TypeId} {m k x : Operand} {l : List MapEntry} (hob : ∀ p ∈ s'.ob, p.1 = p.2) (h : ZcS P ρ t m k x l s = some (v, s')) : ∃ s1, Zb9 P ρ t m k x s = some (v, s1) ∧ s'.h = s1.h ∧ s'.n = s1.n := by
 unfold ZcS at h
 split at h
 ·rename_i kt et b hm hmm
  split at h
  ·rename_i q es hk hes
   obtain ⟨hat, h⟩ := Zh h
   injection h with h
   injection h with h1 h2
   subst h1 h2
   have := Z1.1 (hob _ (List.mem_cons_self (a := (dP (Zko q (ρ k) (ρ x) es = some l), true))))
   refine ⟨s.putM b (.map l.toArray 0), ?_, rfl, rfl⟩
   have hf1 : Zab (ρ k) = true := by
    have := (Bool.and_eq_true_iff.1 hat).1
    cases hx : ρ k <;> rw [hx] at this <;> first | exact this | (simp [atom] at this)
   simp only [Zb9, hm, hmm, hes, hf1, (Bool.and_eq_true_iff.1 hat).2, Bool.and_self, Zle hk this, cond_true]
  ·rename_i fs es hk hes
   obtain ⟨hat, h⟩ := Zh h
   injection h with h
   injection h with h1 h2
   subst h1 h2
   have := Z1.1 (hob _ (List.mem_cons_self (a := (dP (putM P kt (ρ k) (ρ x) es = some l), true))))
   refine ⟨s.putM b (.map l.toArray 0), ?_, rfl, rfl⟩
   simp only [Zb9, hm, hmm, hes, (Bool.and_eq_true_iff.1 hat).1, (Bool.and_eq_true_iff.1 hat).2, Bool.and_self, this, cond_true]
  ·rename_i es hk hes
   obtain ⟨hat, h⟩ := Zh h
   injection h with h
   injection h with h1 h2
   subst h1 h2
   have := Z1.1 (hob _ (List.mem_cons_self (a := (dP (putM P kt (ρ k) (ρ x) es = some l), true))))
   refine ⟨s.putM b (.map l.toArray 0), ?_, rfl, rfl⟩
   simp only [Zb9, hm, hmm, hes, (Bool.and_eq_true_iff.1 hat).1, (Bool.and_eq_true_iff.1 hat).2, Bool.and_self, this, cond_true]
  ·cases h
 ·cases h
end
section
variable {P : Program} {ι : Ren} {w : World} {ρ ρ' : Operand → Value} {s s' : St} {v : Value}

theorem ZcX {o : Oper} {op : BinOp} {t : TypeId} {x y : Operand} {yt : TypeId} (ho : o.op = .binOp op t x y yt) (hρ : ∀ x, VR ι (ρ x) (ρ' x)) (he : Emb P ι s.h.get w) (h : ZcO P ρ o op t x y s = some (v, s')) :
  s' = s ∧ Res P ((execOp ρ' o).run P w) s ι w v s' := by
 have hs : ∀ cs b, o.op ≠ .select cs b := fun cs b e => by rw [ho] at e; cases e
 unfold ZcO at h
 split at h
 ·rename_i q hq
  injection h with h
  injection h with h1 h2
  subst h1 h2
  obtain ⟨xs, ys, hx', hy', hg, hr⟩ := ZdU (w := w) (hρ x) (hρ y) hq
  have g := ZhE (P := P) (w := w) (op := .eql) (t := t) (x := x) (y := y) (xs := xs) (ys := ys) hg
  rw [hx', hy'] at hr
  exact ⟨rfl, Res.same he (v' := .bool q) (by simp [execOp, ho, hx', hy', g, (ZjS hr).1, Result.andThen, Sem.run]) (.atom rfl)⟩
 ·rename_i q hq
  injection h with h
  injection h with h1 h2
  subst h1 h2
  obtain ⟨xs, ys, hx', hy', hg, hr⟩ := ZdU (w := w) (hρ x) (hρ y) hq
  have g := ZhE (P := P) (w := w) (op := .neq) (t := t) (x := x) (y := y) (xs := xs) (ys := ys) hg
  rw [hx', hy'] at hr
  exact ⟨rfl, Res.same he (v' := .bool (!q)) (by simp [execOp, ho, hx', hy', g, (ZjS hr).2, Result.andThen, Sem.run]) (.atom rfl)⟩
 split at h
 ·rename_i r hr
  injection h with h
  subst h
  exact Zam hs hρ he hr
 ·split at h
  ·rename_i q hq _ _
   injection h with h
   injection h with h1 h2
   subst h1 h2
   obtain ⟨k1, k2⟩ := Zgl hq
   have e1 := Zlb (w := w) (ZcH (hρ x) k1) (ZcH (hρ y) k2) (Zf6 he (hρ x) (hρ y) hq)
   have g := ZgR (P := P) (w := w) (op := .eql) (t := t) (x := x) (y := y) (b := ρ' y) (ZcH (hρ x) k1)
   exact ⟨rfl, Res.same he (v' := .bool q) (by simp [execOp, ho, g, e1, Result.andThen, Sem.run]) (.atom rfl)⟩
  ·rename_i q hq _ _
   injection h with h
   injection h with h1 h2
   subst h1 h2
   obtain ⟨k1, k2⟩ := Zgl hq
   have e1 := Zlc (w := w) (ZcH (hρ x) k1) (ZcH (hρ y) k2) (Zf6 he (hρ x) (hρ y) hq)
   have g := ZgR (P := P) (w := w) (op := .neq) (t := t) (x := x) (y := y) (b := ρ' y) (ZcH (hρ x) k1)
   exact ⟨rfl, Res.same he (v' := .bool (!q)) (by simp [execOp, ho, g, e1, Result.andThen, Sem.run]) (.atom rfl)⟩
  ·cases h
theorem Zk2 {o : Oper} {t : TypeId} {x y : Operand} {yt : TypeId} (ho : o.op = .binOp .rem t x y yt) (hρ : ∀ x, VR ι (ρ x) (ρ' x)) (he : Emb P ι s.h.get w) (hob : ∀ p ∈ s'.ob, p.1 = p.2) (h : Zfy ρ x y s = some (v, s')) :
  s'.h = s.h ∧ s'.n = s.n ∧ Res P ((execOp ρ' o).run P w) s ι w v s := by
 unfold Zfy at h
 split at h
 ·rename_i k a k' b hx hy
  injection h with h
  injection h with h1 h2
  subst h1 h2
  obtain ⟨hk, hb⟩ := Z1.1 (hob (dP (k = k' ∧ b ≠ 0), true) (by simp [St.told]))
  subst hk
  have hx' : ρ' x = .int k a := by have := hρ x; rw [hx] at this; exact this.eq_of_atom rfl
  have hy' : ρ' y = .int k b := by have := hρ y; rw [hy] at this; exact this.eq_of_atom rfl
  have g : (eqGuard .rem t x y (.int k a) (.int k b)).run P w = .ok () w := rfl
  have e1 : (binOp .rem t (.int k a) (.int k b)).run P w = .ok (.int k (Int.tmod a b)) w := by
   simp [binOp, Op.intDiv, hb, Sem.run]
  exact ⟨rfl, rfl, Res.same he (v' := .int k (Int.tmod a b)) (by simp [execOp, ho, hx', hy', g, e1, Result.andThen, Sem.run]) (.atom rfl)⟩
 ·cases h
theorem ZhH {o : Oper} {op : BinOp} {n : Nat} {t : TypeId} {x y : Operand} {yt : TypeId} (ho : o.op = .binOp op t x y yt) (hρ : ∀ x, VR ι (ρ x) (ρ' x)) (he : Emb P ι s.h.get w) (hob : ∀ p ∈ s'.ob, p.1 = p.2) (h : ZfW ρ op x y n s = some (v, s')) :
  s'.h = s.h ∧ s'.n = s.n ∧ Res P ((execOp ρ' o).run P w) s ι w v s := by
 unfold ZfW at h
 split at h
 ·rename_i k a k' b hx hy
  injection h with h
  injection h with h1 h2
  subst h1 h2
  obtain ⟨hb, hn⟩ := Z1.1 (hob (dP (b = Int.ofNat n ∧ n ≤ k.bits), true) (by simp [St.told]))
  have hx' : ρ' x = .int k a := by have := hρ x; rw [hx] at this; exact this.eq_of_atom rfl
  have hy' : ρ' y = .int k' b := by have := hρ y; rw [hy] at this; exact this.eq_of_atom rfl
  have g : (eqGuard .shl t x y (.int k a) (.int k' b)).run P w = .ok () w := rfl
  have e1 : (binOp .shl t (.int k a) (.int k' b)).run P w = .ok (.int k (k.wrap (a * 2 ^ n))) w := by
   subst hb
   show (Op.shift .shl k a k' (Int.ofNat n)).run P w = _
   have hm : min n k.bits = n := by omega
   have h0 : ¬ ((n : Int) < 0) := by omega
   simp [Op.shift, Sem.run, hm, h0]
  exact ⟨rfl, rfl, Res.same he (v' := .int k (k.wrap (a * 2 ^ n))) (by simp [execOp, ho, hx', hy', g, e1, Result.andThen, Sem.run]) (.atom rfl)⟩
 ·rename_i k a k' b hx hy
  injection h with h
  injection h with h1 h2
  subst h1 h2
  obtain ⟨hb, hn⟩ := Z1.1 (hob (dP (b = Int.ofNat n ∧ n ≤ k.bits), true) (by simp [St.told]))
  have hx' : ρ' x = .int k a := by have := hρ x; rw [hx] at this; exact this.eq_of_atom rfl
  have hy' : ρ' y = .int k' b := by have := hρ y; rw [hy] at this; exact this.eq_of_atom rfl
  have g : (eqGuard .shr t x y (.int k a) (.int k' b)).run P w = .ok () w := rfl
  have e1 : (binOp .shr t (.int k a) (.int k' b)).run P w = .ok (.int k (a / 2 ^ n)) w := by
   subst hb
   show (Op.shift .shr k a k' (Int.ofNat n)).run P w = _
   have hm : min n k.bits = n := by omega
   have h0 : ¬ ((n : Int) < 0) := by omega
   have hp : (0 : Int) ≤ 2 ^ n := Int.pow_nonneg (by decide)
   simp [Op.shift, Sem.run, hm, h0, Int.fdiv_eq_ediv_of_nonneg _ hp]
  exact ⟨rfl, rfl, Res.same he (v' := .int k (a / 2 ^ n)) (by simp [execOp, ho, hx', hy', g, e1, Result.andThen, Sem.run]) (.atom rfl)⟩
 ·cases h
theorem Zlf {o : Oper} {t : TypeId} {x y : Operand} {yt : TypeId} (ho : o.op = .binOp .add t x y yt) (hρ : ∀ x, VR ι (ρ x) (ρ' x)) (he : Emb P ι s.h.get w) (hob : ∀ p ∈ s'.ob, p.1 = p.2) (h : ZgI ρ x y s = some (v, s')) :
  s'.h = s.h ∧ s'.n = s.n ∧ Res P ((execOp ρ' o).run P w) s ι w v s := by
 unfold ZgI at h
 split at h
 ·rename_i a b hx hy
  injection h with h
  injection h with h1 h2
  subst h1 h2
  have hs := Z1.1 (hob (dP (((a.size + b.size : Nat) : Int) ≤ IntKind.i64.max), true) (by simp [St.told]))
  have hx' : ρ' x = .string a := by have := hρ x; rw [hx] at this; exact this.eq_of_atom rfl
  have hy' : ρ' y = .string b := by have := hρ y; rw [hy] at this; exact this.eq_of_atom rfl
  have g : (eqGuard .add t x y (.string a) (.string b)).run P w = .ok () w := rfl
  have e1 : (binOp .add t (.string a) (.string b)).run P w = .ok (.string (a ++ b)) w := by
   show (Op.stringOp .add a b).run P w = _
   simp only [Op.stringOp]
   rw [if_neg (by omega)]
   simp [Sem.run]
  exact ⟨rfl, rfl, Res.same he (v' := .string (a ++ b)) (by simp [execOp, ho, hx', hy', g, e1, Result.andThen, Sem.run]) (.atom rfl)⟩
 ·cases h
theorem Zdw (hρ : ∀ x, VR ι (ρ x) (ρ' x)) (a : Array Operand) : VRs ι (a.map ρ) (a.map ρ') := by
 refine ⟨by simp, fun i x y hx hy => ?_⟩
 simp only [Array.getElem?_map] at hx hy
 cases hi : a[i]? with
 | none => rw [hi] at hx; cases hx
 | some z => rw [hi] at hx hy; injection hx with hx; injection hy with hy; subst hx hy; exact hρ z
theorem Zie {o : Oper} {c : Call} {b : Builtin} (ho : o.op = .call c) (hc : c.callee = .builtin b) (hρ : ∀ x, VR ι (ρ x) (ρ' x)) (he : Emb P ι s.h.get w) (hf : Fresh ι s.n s'.n) (hob : ∀ p ∈ s'.ob, p.1 = p.2) (h : ZcU P ρ o c b s = some (v, s')) :
  Res P ((execOp ρ' o).run P w) s ι w v s' := by
 have hs : ∀ cs b, o.op ≠ .select cs b := fun cs b e => by rw [ho] at e; cases e
 obtain ⟨cs, hrun⟩ : ∃ cs, (execOp ρ' o).run P w = (builtin b c.argTypes o.type cs (c.args.map ρ')).run P w := ⟨_, by
  simp [execOp, ho, resolve, hc, invoke, Result.andThen, Sem.run]
  rfl⟩
 unfold ZcU at h
 split at h
 ·split at h
  ·rename_i t tx x y ht hx
   obtain ⟨v', w', ι', hr, h1, h2, h3⟩ : ∃ v' w' ι', (Builtin.append_ #[t, tx] o.type #[ρ' x, ρ' y]).run P w = .ok v' w' ∧ Step P ι s.h.get w ι' s'.h.get w' ∧ Dom ι ι' s.n s'.n ∧ VR ι' v v' := by
    split at h
    ·rename_i s1 hw
     obtain ⟨e1, e2, _⟩ := Z3 hw
     obtain ⟨s2, h4, e3, e4⟩ := Zks hob h
     have := Zcd (ty := o.type) (hρ x) (hρ y) (e1 ▸ he) (e2 ▸ e4 ▸ hf) h4
     rw [e3, e4, ← e1, ← e2]
     exact this
    ·rename_i s1 hw
     obtain ⟨e1, e2, _⟩ := Z3 hw
     obtain ⟨s2, h4, e3, e4⟩ := Zj6 hob h
     have := Zcd (ty := o.type) (hρ x) (hρ y) (e1 ▸ he) (e2 ▸ e4 ▸ hf) h4
     rw [e3, e4, ← e1, ← e2]
     exact this
    ·rename_i s1 hw
     obtain ⟨e1, e2, _⟩ := Z3 hw
     obtain ⟨s2, h4, e3, e4⟩ := Zj7 hob h
     have := Zcd (ty := o.type) (hρ x) (hρ y) (e1 ▸ he) (e2 ▸ e4 ▸ hf) h4
     rw [e3, e4, ← e1, ← e2]
     exact this
    ·cases h
    ·rename_i s1 hw
     obtain ⟨e1, e2, _⟩ := Z3 hw
     have := Zcd (ty := o.type) (hρ x) (hρ y) (e1 ▸ he) (e2 ▸ hf) h
     rw [← e1, ← e2]
     exact this
   refine ⟨.value v', w', ι', v', ?_, .inl rfl, h1, h2, h3⟩
   have e1 : c.argTypes = #[t, tx] := by rw [← Array.toArray_toList (xs := c.argTypes), ht]
   have e2 : c.args.map ρ' = #[ρ' x, ρ' y] := by rw [← Array.toArray_toList (xs := c.args), hx]; simp
   rw [hrun, e1, e2]
   simp [builtin, hr, Result.andThen, Sem.run]
  ·cases h
 ·split at h
  ·rename_i t x ht hx
   split at h
   ·rename_i e a n k hu hxx
    injection h with h
    injection h with h1 h2
    subst h1 h2
    have e1 : c.argTypes = #[t] := by rw [← Array.toArray_toList (xs := c.argTypes), ht]
    have e2 : c.args.map ρ' = #[ρ' x] := by rw [← Array.toArray_toList (xs := c.args), hx]; simp
    have hv := hxx ▸ hρ x
    have hl : ∃ a' c', ρ' x = .slice a' n c' := by
     generalize ρ' x = x' at hv
     cases hv with
     | atom h => simp [Ev.atom] at h
     | slice => exact ⟨_, _, rfl⟩
     | slice0 => exact ⟨_, _, rfl⟩
     | mslice => exact ⟨_, _, rfl⟩
    obtain ⟨a', c', hl⟩ := hl
    refine Res.same he (v' := goInt n) ?_ (.atom rfl)
    rw [hrun, e1, e2, hl]
    simp [builtin, Builtin.len_, run_underlying hu, Result.andThen, Sem.run]
   ·rename_i kt et b0 hu hxx
    split at h
    ·rename_i es hes
     injection h with h
     injection h with h1 h2
     subst h1 h2
     have e1 : c.argTypes = #[t] := by rw [← Array.toArray_toList (xs := c.argTypes), ht]
     have e2 : c.args.map ρ' = #[ρ' x] := by rw [← Array.toArray_toList (xs := c.args), hx]; simp
     refine Res.same he (v' := goInt es.length) ?_ (.atom rfl)
     rw [hrun, e1, e2]
     simp [builtin, ZiH (ty := o.type) hu (hxx ▸ hρ x) he hes, Result.andThen, Sem.run]
    ·cases h
   ·exact (Zam hs hρ he h).2
  ·cases h
 ·split at h
  ·rename_i t t2 x k ht hx
   have e1 : c.argTypes = #[t, t2] := by rw [← Array.toArray_toList (xs := c.argTypes), ht]
   have e2 : c.args.map ρ' = #[ρ' x, ρ' k] := by rw [← Array.toArray_toList (xs := c.args), hx]; simp
   obtain ⟨w', q1, q2, q3, rfl⟩ := ZiG (t2 := t2) (ty := o.type) (hρ x) (hρ k) he h
   refine ⟨.value (.tuple #[]), w', ι, .tuple #[], ?_, .inl rfl, q2, q3 ▸ Dom.refl, VR.of_free rfl⟩
   rw [hrun, e1, e2]
   simp [builtin, q1, Result.andThen, Sem.run]
  ·cases h
 ·split at h
  ·rename_i t x ht hx
   have e1 : c.argTypes = #[t] := by rw [← Array.toArray_toList (xs := c.argTypes), ht]
   have e2 : c.args.map ρ' = #[ρ' x] := by rw [← Array.toArray_toList (xs := c.args), hx]; simp
   obtain ⟨w', q1, q2, q3, rfl⟩ := ZjA (ty := o.type) (hρ x) he h
   refine ⟨.value (.tuple #[]), w', ι, .tuple #[], ?_, .inl rfl, q2, q3 ▸ Dom.refl, VR.of_free rfl⟩
   rw [hrun, e1, e2]
   simp [builtin, q1, Result.andThen, Sem.run]
  ·cases h
 ·exact (Zam hs hρ he h).2
theorem Zhs {o : Oper} {x : Operand} (ho : o.op = .nilCheck x) (hρ : ∀ x, VR ι (ρ x) (ρ' x)) (he : Emb P ι s.h.get w) (h : (match ρ x with
  | .pointer (some a) => some ((.pointer (some a) : Value), s)
  | .func (.func f) a b => some (.func (.func f) a b, s)
  | _ => none) = some (v, s')) : s' = s ∧ Res P ((execOp ρ' o).run P w) s ι w v s' := by
 split at h
 ·rename_i a hx
  injection h with h
  injection h with h1 h2
  subst h1 h2
  have hv := hx ▸ hρ x
  refine ⟨rfl, Res.same he (v' := ρ' x) ?_ hv⟩
  have : ∃ a', ρ' x = .pointer (some a') := by
   generalize ρ' x = x' at hv
   cases hv with
   | atom h => simp [Ev.atom] at h
   | ptr h => exact ⟨_, rfl⟩
   | mptr h => exact ⟨_, rfl⟩
  obtain ⟨a', hx'⟩ := this
  simp [execOp, ho, hx', Sem.run]
 ·rename_i f a b hx
  injection h with h
  injection h with h1 h2
  subst h1 h2
  have hv := hx ▸ hρ x
  refine ⟨rfl, Res.same he (v' := ρ' x) ?_ hv⟩
  have : ∃ a' b', ρ' x = .func (.func f) a' b' := by
   generalize ρ' x = x' at hv
   cases hv with
   | atom h => exact ⟨_, _, rfl⟩
   | func => exact ⟨_, _, rfl⟩
  obtain ⟨a', b', hx'⟩ := this
  simp [execOp, ho, hx', Sem.run]
 ·cases h
theorem ZfA : ∀ {l : List Value} {ns : List Int}, Zet l = some ns → l = ns.map (Value.int .u8)
 | [], ns, h => by simp [Zet] at h; subst h; rfl
 | x :: l, ns, h => by
  unfold Zet at h
  split at h
  ·cases ‹_ :: _ = []›
  ·rename_i n l' hx
   injection hx with h1 h2
   subst h1 h2
   split at h
   ·rename_i r hr
    injection h with h
    subst h
    rw [ZfA hr]
    rfl
   ·cases h
  ·cases h
theorem Zht {o : Oper} {a b : TypeId} {x : Operand} {ns : List Int} (ho : o.op = .convert a b x) (hρ : ∀ x, VR ι (ρ x) (ρ' x)) (he : Emb P ι s.h.get w) (hob : ∀ p ∈ s'.ob, p.1 = p.2) (h : Zc1 P ρ a b x ns s = some (v, s')) :
  s'.h = s.h ∧ s'.n = s.n ∧ Res P ((execOp ρ' o).run P w) s ι w v s := by
 unfold Zc1 at h
 split at h
 ·rename_i e k o' n c hua hub hx
  split at h
  ·rename_i hue
   injection h with h
   injection h with h1 h2
   subst h1 h2
   have hl := Z1.1 (hob (dP (Zfv s k o' n = some (ns.map (Value.int .u8))), true) (by simp [St.told]))
   obtain ⟨bk, cs, hb, hcl, hll, hcs, hvv⟩ := ZhA he hl
   have hcs' : cs = ns.map (Value.int .u8) := by
    apply List.ext_getElem (by omega)
    intro i h1 h2
    have hq := hvv i (ns.map (Value.int .u8))[i] cs[i] (List.getElem?_eq_getElem h2) (List.getElem?_eq_getElem h1)
    rw [List.getElem_map] at hq ⊢
    exact hq.int_inv
   have hv := hx ▸ hρ x
   have : ∃ a' c', ρ' x = .slice a' n c' ∧ (Conv.bytesToString (.slice a' n c')).run P w = .ok (.string (ns.foldl (fun r n => r.push (UInt8.ofNat n.toNat)) ByteArray.empty)) w := by
    generalize ρ' x = x' at hv
    cases hv with
    | atom h => simp [Ev.atom] at h
    | slice hb2 hn hc hq =>
     rename_i b2 c'
     rw [hb] at hb2; injection hb2 with hb2; subst hb2
     refine ⟨_, _, rfl, ?_⟩
     have := run_loadCells_list (P := P) w ⟨bk.1, o', none⟩ cs hcs
     rw [hcl] at this
     rw [hcs'] at this
     exact run_bytesToString w _ n c' ns this
    | slice0 _h0 =>
     rename_i a'
     have : ns = [] := List.eq_nil_of_length_eq_zero (by simpa using hll)
     subst this
     cases a' with
     | none => exact ⟨none, 0, rfl, rfl⟩
     | some a' => exact ⟨some a', 0, rfl, run_bytesToString w a' 0 0 [] rfl⟩
   obtain ⟨a', c', hx', hrun⟩ := this
   refine ⟨rfl, rfl, Res.same he (v' := .string _) ?_ (.atom rfl)⟩
   simp [execOp, ho, hx', run_convert_bytes_string w a b e a' n c' hua hue hub, hrun, Result.andThen, Sem.run]
  ·cases h
 ·rename_i e id o' z n c hua hub hx
  split at h
  ·rename_i hue
   injection h with h
   injection h with h1 h2
   subst h1 h2
   have hl := Z1.1 (hob (dP (Zar id o' n = some (ns.map (Cell.k .u8))), true) (by simp [St.told]))
   have hv := hx ▸ hρ x
   have : ∃ a' c', ρ' x = .slice a' n c' ∧ (Conv.bytesToString (.slice a' n c')).run P w = .ok (.string (ns.foldl (fun r n => r.push (UInt8.ofNat n.toNat)) ByteArray.empty)) w := by
    generalize ρ' x = x' at hv
    cases hv with
    | atom h => simp [Ev.atom] at h
    | mslice hb hn hc =>
     rename_i b base c' q
     obtain ⟨cs, hcl, hll, hcs, hvv⟩ := Zf3 (q := 0) he hb hl
     have ecell : Zt (ns.map (Cell.k .u8)) = ns.map (Value.int .u8) := by unfold Zt; rw [List.map_map]; rfl
     have hcs' : cs = ns.map (Value.int .u8) := by
      rw [ecell] at hvv
      rw [List.length_map] at hll
      apply List.ext_getElem (by simp; omega)
      intro i h1 h2
      have hq := hvv i (ns.map (Value.int .u8))[i] cs[i] (List.getElem?_eq_getElem h2) (List.getElem?_eq_getElem h1)
      rw [List.getElem_map] at hq ⊢
      exact hq.int_inv
     refine ⟨_, _, rfl, ?_⟩
     have := run_loadCells_list (P := P) w ⟨b, base + o', none⟩ cs hcs
     rw [hcl] at this
     rw [hcs'] at this
     exact run_bytesToString w _ n c' ns this
    | slice0 _h0 =>
     rename_i a'
     have : ns = [] := by
      unfold Zar at hl
      split at hl
      ·injection hl with hl
       simpa using hl.symm
      ·cases hl
     subst this
     cases a' with
     | none => exact ⟨none, 0, rfl, rfl⟩
     | some a' => exact ⟨some a', 0, rfl, run_bytesToString w a' 0 0 [] rfl⟩
   obtain ⟨a', c', hx', hrun⟩ := this
   refine ⟨rfl, rfl, Res.same he (v' := .string _) ?_ (.atom rfl)⟩
   simp [execOp, ho, hx', run_convert_bytes_string w a b e a' n c' hua hue hub, hrun, Result.andThen, Sem.run]
  ·cases h
 ·cases h
theorem ZdR {src dst u t : TypeId} {i j : TypeInfo} {w : World} {b : Nat} {C : Array Value} {fr : Nat × Nat} (hs : P.underlying src = some .unsafePointer) (hd : P.underlying dst = some (.pointer u)) (hi : P.info? u = some i) (h0 : 0 < i.size) (hsub : ZlM P t u = true) (hj : P.info? t = some j) (hj0 : 0 < j.size)
  (hB : w.heap[b]? = some (.cells C t fr)) (hC : j.size ≤ C.size) : (convert src dst (.pointer (some ⟨b, 0, none⟩))).run P w = .ok (.pointer (some ⟨b, 0, none⟩)) w := by
 have hsh : w.shape? b = some (t, C.size) := by simp [World.shape?, hB]
 have hc : P.cellsOf t = j.size := by simp [Program.cellsOf, hj]
 have hcu : P.cellsOf u = i.size := by simp [Program.cellsOf, hi]
 have hl : liesAt P P.depth t (C.size / P.cellsOf t) 0 u 1 = true := by
  have hd : P.depth = (2 * (P.types.size + Made.depth) + 1) + 1 := rfl
  rw [hd]
  simp only [liesAt, Bool.or_eq_true]
  left
  rw [hd]
  have h1 : 1 ≤ C.size / j.size := (Nat.le_div_iff_mul_le hj0).2 (by omega)
  have h2 : j.size ≠ 0 := by omega
  have h3 : i.size ≠ 0 := by omega
  unfold ZlM at hsub
  rw [Bool.or_eq_true] at hsub
  rcases hsub with hsub | hsub
  ·obtain rfl := Nat.eq_of_beq_eq_true hsub
   simp [Go.rowAt, hc, sameLayout, h2, h1]
  ·split at hsub
   ·rename_i fs hfs
    rw [Bool.and_eq_true] at hsub
    obtain ⟨hst, hsub⟩ := hsub
    split at hsub
    ·rename_i f hf
     rw [Bool.and_eq_true] at hsub
     have e1 := Nat.eq_of_beq_eq_true hsub.1
     have e2 := Nat.eq_of_beq_eq_true hsub.2
     have hm : f ∈ fs := Array.mem_of_getElem? hf
     have hin : Go.rowAt P (fun x => sameLayout P (2 * (P.types.size + Made.depth) + 1 + 1) x u) (2 * (P.types.size + Made.depth) + 1) u 1 0 1 = true := by
      simp [Go.rowAt, hcu, sameLayout, h3]
     unfold Go.rowAt
     simp only [hc, h2, if_false, Nat.zero_div, Nat.zero_mod, hfs, Bool.or_eq_true, Bool.and_eq_true, decide_eq_true_eq]
     right
     refine ⟨by omega, hst, ?_⟩
     rw [Array.any_eq_true']
     refine ⟨f, hm, ?_⟩
     rw [e1, e2, hcu]
     simp only [Nat.zero_add, Nat.sub_zero, Nat.le_refl, decide_true, Bool.true_and]
     rw [hin]
     simpa using h0
    ·cases hsub
   ·cases hsub
 have hz : i.size ≠ 0 := by omega
 simp [convert, Conv.unsafePointer, Conv.seenAt, viewAt, cellsIn, sizeOf, typeInfo, run_underlying hs, run_underlying hd, hi, hz, hsh, variablesAt, hl, Result.andThen]
theorem Zfp {o : Oper} {a b : TypeId} {x : Operand} (ho : o.op = .convert a b x) (hρ : ∀ x, VR ι (ρ x) (ρ' x)) (he : Emb P ι s.h.get w) (h : Zcu P ρ a b x s = some (v, s')) :
  s' = s ∧ Res P ((execOp ρ' o).run P w) s ι w v s' := by
 unfold Zcu at h
 split at h
 ·rename_i e k o' n c hua hub hx
  split at h
  ·rename_i l hue hl
   split at h
   ·rename_i ns hns
    injection h with h
    injection h with h1 h2
    subst h1 h2
    have hbs := ZfA hns
    obtain ⟨bk, cs, hb, hcl, hll, hcs, hvv⟩ := ZeE he hl
    have hcs' : cs = ns.map (Value.int .u8) := by
     rw [← hbs]
     apply List.ext_getElem (by omega)
     intro i h1 h2
     have hq := hvv i l[i] cs[i] (List.getElem?_eq_getElem h2) (List.getElem?_eq_getElem h1)
     have hli : l[i] = .int .u8 (ns[i]'(by rw [hbs] at h2; simpa using h2)) := by simp [hbs]
     rw [hli] at hq ⊢
     exact hq.int_inv
    have hv := hx ▸ hρ x
    have : ∃ a' c', ρ' x = .slice a' n c' ∧ (Conv.bytesToString (.slice a' n c')).run P w = .ok (.string (ns.foldl (fun r n => r.push (UInt8.ofNat n.toNat)) ByteArray.empty)) w := by
     generalize ρ' x = x' at hv
     cases hv with
     | atom h => simp [Ev.atom] at h
     | slice hb2 hn hc hq =>
      rename_i b2 c'
      rw [hb] at hb2; injection hb2 with hb2; subst hb2
      refine ⟨_, _, rfl, ?_⟩
      have := run_loadCells_list (P := P) w ⟨bk.1, o', none⟩ cs hcs
      rw [hcl] at this
      rw [hcs'] at this
      exact run_bytesToString w _ n c' ns this
     | slice0 _h0 =>
      rename_i a'
      have : ns = [] := List.eq_nil_of_length_eq_zero (by rw [hbs] at hll; simpa using hll)
      subst this
      cases a' with
      | none => exact ⟨none, 0, rfl, rfl⟩
      | some a' => exact ⟨some a', 0, rfl, run_bytesToString w a' 0 0 [] rfl⟩
    obtain ⟨a', c', hx', hrun⟩ := this
    refine ⟨rfl, Res.same he (v' := .string _) ?_ (.atom rfl)⟩
    simp [execOp, ho, hx', run_convert_bytes_string w a b e a' n c' hua hue hub, hrun, Result.andThen, Sem.run]
   ·cases h
  ·cases h
 ·rename_i t k o' hua hub hx
  split at h
  ·rename_i i u hi hrow
   obtain ⟨hz, h⟩ := (show ∀ {b : Bool} {x : Option (Value × St)} {y : Value × St}, (bif b then none else x) = some y → b = false ∧ x = some y from fun {b x y} h => by cases b <;> simp at h; exact ⟨rfl, h⟩) h
   injection h with h
   injection h with h1 h2
   subst h1 h2
   obtain ⟨bk, C, tt, hbk, hB, hl, hxx⟩ := ZeD he hrow
   obtain ⟨y, hy, hv⟩ := hxx 0 _ rfl
   obtain ⟨b', hb', hp⟩ := (hx ▸ hρ x).ptr_inv
   rw [hbk] at hb'; injection hb' with hb'; subst hb'
   have hc : w.cell? ⟨bk.1, o', none⟩ = some y := by
    rw [Zi2 hB]
    simpa using hy
   have hsz : (P.info? t).map (fun i => decide (i.size = 0)) = some false := by
    rw [hi]
    simp only [Option.map_some, Option.some.injEq, decide_eq_false_iff_not]
    intro e
    rw [e] at hz
    simp at hz
   refine ⟨rfl, Res.same he (v' := .pointer (some ⟨bk.1, o', none⟩)) ?_ (.ptr hbk)⟩
   simp [execOp, ho, hp, run_convert_to_unsafe (w := w) hua hub hsz hc, Result.andThen, Sem.run]
  ·cases h
 ·rename_i u k hua hub hx
  split at h
  ·rename_i i c t hi hk
   replace h := Zh h
   obtain ⟨hg, h⟩ := h
   simp only [Bool.and_eq_true] at hg
   have h0 := Nat.le_of_ble_eq_true hg.1
   have hsub := hg.2.1
   have hft := hg.2.2
   unfold ZkV at hft
   split at hft
   case h_2 => cases hft
   rename_i j hj
   rw [Bool.and_eq_true] at hft
   have hj0 := Nat.le_of_ble_eq_true hft.1
   have hc := Nat.le_of_ble_eq_true hft.2
   injection h with h
   injection h with h1 h2
   subst h1 h2
   obtain ⟨bk, C, hbk, hB, hcr, _⟩ := he.objF k c t hk
   obtain ⟨b', hb', hp⟩ := (hx ▸ hρ x).ptr_inv
   rw [hbk] at hb'; injection hb' with hb'; subst hb'
   obtain ⟨fr, hB, _⟩ := hB
   refine ⟨rfl, Res.same he (v' := .pointer (some ⟨bk.1, 0, none⟩)) ?_ (.ptr hbk)⟩
   simp [execOp, ho, hp, ZdR (w := w) hua hub hi h0 hsub hj hj0 hB (by have := hcr.1; omega), Result.andThen, Sem.run]
  ·cases h
 ·cases h
theorem ZiI {o : Oper} {a b : TypeId} {x : Operand} {z : ByteArray} {r : Option Zeb} (ho : o.op = .convert a b x) (hx : ρ' x = .string z) (he : Emb P ι s.h.get w) (hf : Fresh ι s.n s'.n) (hob : ∀ p ∈ s'.ob, p.1 = p.2) (h : Zd9 P a b z r s = some (v, s')) :
  Res P ((execOp ρ' o).run P w) s ι w v s' := by
 unfold Zd9 at h
 split at h
 ·rename_i e hua hub
  split at h
  ·rename_i hue
   replace h := Zh h
   obtain ⟨hg, h⟩ := h
   simp only [Bool.and_eq_true] at hg
   obtain rfl : e = u8T := Nat.eq_of_beq_eq_true hg.1
   have hs1 : ∀ i, P.info? u8T = some i → i.size = 1 := fun i hi => by
    have := hg.2
    unfold sz1 at this
    rw [hi] at this
    exact Nat.eq_of_beq_eq_true this
   have hrun : (execOp ρ' o).run P w = .ok (.value (.slice (some ⟨w.heap.size, 0, none⟩) z.size (grownCap w z.size 0 u8T))) (Lib.bytesWorld w u8T z) := by
    simp [execOp, ho, hx, Lib.run_convert_string_bytes w a b u8T z hua hub hue, Result.andThen, Sem.run]
   have hge := grownCap_ge w z.size 0 u8T
   have hbl : (ZbS z).length = z.size := by unfold ZbS; rw [List.length_map, Array.length_toList]; rfl
   have hcr : CR ι (ZbS z) (Lib.bytesCells w u8T z) := by
    refine ⟨by rw [hbl]; unfold Lib.bytesCells; rw [Array.size_append, Array.size_map]; exact Nat.le_add_right _ _, fun i u y hu hy => ?_⟩
    have hi : i < z.size := by have := (List.getElem?_eq_some_iff.1 hu).1; omega
    have hi2 : i < (z.data.map fun b => Value.int .u8 b.toNat).size := by rw [Array.size_map]; exact hi
    unfold Lib.bytesCells at hy
    rw [Array.getElem?_append_left hi2, Array.getElem?_map] at hy
    unfold ZbS at hu
    rw [List.getElem?_map, Array.getElem?_toList] at hu
    rw [hu] at hy
    injection hy with hy
    subst hy
    cases hz : z.data[i]? with
    | none => rw [hz] at hu; cases hu
    | some q => rw [hz] at hu; injection hu with hu; subst hu; exact .atom rfl
   have hcs : (Lib.bytesCells w u8T z).size = grownCap w z.size 0 u8T := by
    unfold Lib.bytesCells
    rw [Array.size_append, Array.size_map, Array.size_replicate]
    show z.size + _ = _
    omega
   have st : s.n < s'.n → Step P ι s.h.get w (upd ι s.n (some (w.heap.size, grownCap w z.size 0 u8T))) (upd s.h.get s.n (some (.cells (ZbS z) u8T))) (Lib.bytesWorld w u8T z) := fun hn =>
    Step.allocG he (Nat.lt_of_lt_of_le hn hf.1) (hf.2 s.n (Nat.le_refl _) hn) u8T hcr _ (fun i hi => by rw [hs1 i hi, hcs]; omega) (fun b hb => Lib.bytesWorld_at_old w u8T z b hb) ⟨_, Lib.bytesWorld_at_new w u8T z, .inr ⟨Nat.le_refl _, rfl⟩⟩ (Lib.bytesWorld_size w u8T z) (by simp [Lib.bytesWorld, World.freeze, World.alloc, World.drew, -World.alloc_eq, -World.drew_eq]) (by simp [Lib.bytesWorld, World.freeze, World.alloc, World.drew, -World.alloc_eq, -World.drew_eq]) (by simp [Lib.bytesWorld, World.freeze, World.alloc, World.drew, -World.alloc_eq, -World.drew_eq])
   have vr : VR (upd ι s.n (some (w.heap.size, grownCap w z.size 0 u8T))) (.slice (some ⟨s.n, 0, none⟩) z.size z.size) (.slice (some ⟨w.heap.size, 0, none⟩) z.size (grownCap w z.size 0 u8T)) :=
    .slice (b := (w.heap.size, grownCap w z.size 0 u8T)) Zl (Nat.le_refl _) hge (fun _ => .inr (Nat.le_refl _))
   split at h
   ·injection h with h; injection h with h1 h2; subst h1 h2
    refine ⟨_, _, _, _, hrun, .inl rfl, ?_, Dom.one, vr⟩
    show Step P ι s.h.get w _ (s.h.set s.n _).get _
    rw [Tr.get_set]; exact st (Nat.lt_succ_self _)
   ·rename_i l cp c
    injection h with h; injection h with h1 h2; subst h1 h2
    obtain ⟨rfl, rfl⟩ := Z1.1 (hob _ (List.mem_cons_self ..))
    refine ⟨_, _, _, _, hrun, .inl rfl, ?_, Dom.one, vr⟩
    show Step P ι s.h.get w _ (s.h.set s.n _).get _
    rw [Tr.get_set]; exact st (Nat.lt_succ_self _)
   ·cases h
  ·cases h
 ·cases h
theorem Zlg {o : Oper} (hρ : ∀ x, VR ι (ρ x) (ρ' x)) (he : Emb P ι s.h.get w) (hf : Fresh ι s.n s'.n) (hob : ∀ p ∈ s'.ob, p.1 = p.2) (h : ev1 P ρ o s = some (v, s')) :
  Res P ((execOp ρ' o).run P w) s ι w v s' := by
 obtain ⟨dst, op, type, pos, after, guard⟩ := o
 cases op
 case move x =>
  simp only [ev1, Option.some.injEq, Prod.mk.injEq] at h
  obtain ⟨rfl, rfl⟩ := h
  exact Res.same he (v' := ρ' x) (by simp [execOp, Sem.run]) (hρ x)
 case assign x =>
  simp only [ev1, Option.some.injEq, Prod.mk.injEq] at h
  obtain ⟨rfl, rfl⟩ := h
  exact Res.same he (v' := ρ' x) (by simp [execOp, Sem.run]) (hρ x)
 case pick c a b =>
  simp only [ev1] at h
  split at h
  ·rename_i t ht
   have hc := (ht ▸ hρ c).bool_inv
   split at h
   ·injection h with h
    injection h with h1 h2
    subst h1 h2
    exact Res.same he (v' := ρ' a) (by simp [execOp, hc, asBool, Result.andThen, Sem.run]) (hρ a)
   ·injection h with h
    injection h with h1 h2
    subst h1 h2
    exact Res.same he (v' := ρ' b) (by simp [execOp, hc, asBool, Result.andThen, Sem.run]) (hρ b)
  ·cases h
 case alloc t =>
  simp only [ev1] at h
  split at h
  ·rename_i z hz
   injection h with h
   injection h with h1 h2
   subst h1 h2
   exact Zjw rfl he hz hf
  ·cases h
 case box t x =>
  simp only [ev1, Option.some.injEq, Prod.mk.injEq] at h
  obtain ⟨rfl, rfl⟩ := h
  exact ZkX rfl (hρ x) he hf
 case build t ps =>
  simp only [ev1] at h
  obtain ⟨rfl, hr⟩ := Zj1 (o := ⟨dst, .build t ps, type, pos, after, guard⟩) rfl hρ he h
  exact hr
 case buildSlice t n ps => exact Zgx (o := ⟨dst, .buildSlice t n ps, type, pos, after, guard⟩) rfl hρ he hf h
 case load t a =>
  simp only [ev1] at h
  split at h
  ·rename_i l s1 hx
   obtain ⟨e1, e2, _⟩ := Zi4 hx
   exact Res.heap (Zjz (o := ⟨dst, .load t a, type, pos, after, guard⟩) (s := s1) rfl (hρ a) (e1 ▸ he) hob h) e1.symm e2.symm
  ·rename_i s1 hx
   obtain ⟨e1, e2, _⟩ := Zi4 hx
   split at h
   ·rename_i k o ha
    split at h
    ·rename_i u hu
     injection h with h
     injection h with h1 h2
     subst h1 h2
     exact Res.heap (ZeF (o := ⟨dst, .load t a, type, pos, after, guard⟩) (s := s1) rfl ha (hρ a) (e1 ▸ he) hu) e1.symm e2.symm
    ·cases h
   ·cases h
 case store t a x =>
  simp only [ev1] at h
  split at h
  ·rename_i c s1 hw
   obtain ⟨e1, e2, _⟩ := Z3 hw
   obtain ⟨s2, h4, e3, e4⟩ := ZhB hob h
   exact ((Zed (o := ⟨dst, .store t a x, type, pos, after, guard⟩) (s := s1) rfl hρ (e1 ▸ he) h4).heap e1.symm e2.symm).behind e3 e4
  ·rename_i k cs c s1 hw
   obtain ⟨e1, e2, _⟩ := Z3 hw
   exact Res.heap (ZiD (o := ⟨dst, .store t a x, type, pos, after, guard⟩) (s := s1) rfl hρ (e1 ▸ he) hob h) e1.symm e2.symm
  ·cases h
  ·rename_i s1 hw
   obtain ⟨e1, e2, _⟩ := Z3 hw
   exact (Zed (o := ⟨dst, .store t a x, type, pos, after, guard⟩) (s := s1) rfl hρ (e1 ▸ he) h).heap e1.symm e2.symm
 case nilCheck x =>
  simp only [ev1] at h
  obtain ⟨rfl, hr⟩ := Zhs (o := ⟨dst, .nilCheck x, type, pos, after, guard⟩) rfl hρ he h
  exact hr
 case fieldAddr t x f => obtain ⟨rfl, hr⟩ := ZgM (o := ⟨dst, .fieldAddr t x f, type, pos, after, guard⟩) rfl hρ he h; exact hr
 case field t x f => obtain ⟨rfl, hr⟩ := Zjx (o := ⟨dst, .field t x f, type, pos, after, guard⟩) rfl hρ he h; exact hr
 case index t x ix =>
  simp only [ev1] at h
  split at h
  ·split at h
   ·rename_i c s1 hw
    obtain ⟨e1, e2, _⟩ := Z3 hw
    obtain ⟨e3, e4, hq⟩ := Zi9 (o := ⟨dst, .index t x ix, type, pos, after, guard⟩) (s := s1) rfl hρ (e1 ▸ he) hob h
    exact (hq.heap e1.symm e2.symm).behind e3 e4
   ·cases h
   ·rename_i s1 hw
    obtain ⟨e1, e2, _⟩ := Z3 hw
    obtain ⟨rfl, hr⟩ := Zam (o := ⟨dst, .index t x ix, type, pos, after, guard⟩) (s := s1) (fun _ _ e => by cases e) hρ (e1 ▸ he) h
    exact hr.heap e1.symm e2.symm
  split at h
  ·rename_i r hr
   injection h with h
   subst h
   obtain ⟨e1, hq⟩ := Zjy (o := ⟨dst, .index t x ix, type, pos, after, guard⟩) rfl hρ he hr
   subst e1
   exact hq
  ·obtain ⟨rfl, hr⟩ := Zam (o := ⟨dst, .index t x ix, type, pos, after, guard⟩) (fun _ _ e => by cases e) hρ he h; exact hr
 case indexAddr t x ix =>
  simp only [ev1] at h
  split at h
  ·rename_i n s1 hx
   obtain ⟨e1, e2, _⟩ := Zi3 hx
   exact Res.heap (Zgw (o := ⟨dst, .indexAddr t x ix, type, pos, after, guard⟩) (s := s1) rfl hρ (e1 ▸ he) hob h) e1.symm e2.symm
  ·rename_i s1 hx
   obtain ⟨e1, e2, _⟩ := Zi3 hx
   obtain ⟨rfl, hr⟩ := ZbQ (o := ⟨dst, .indexAddr t x ix, type, pos, after, guard⟩) (s := s1) rfl hρ (e1 ▸ he) h
   exact Res.heap hr e1.symm e2.symm
 case extract x i =>
  simp only [ev1] at h
  split at h
  ·rename_i vs hx
   split at h
   ·rename_i u hu
    injection h with h
    injection h with h1 h2
    subst h1 h2
    obtain ⟨vs', hx', hs, hc⟩ := (hx ▸ hρ x).tuple_inv
    have hlt : i < vs'.size := by rw [← hs]; exact (Array.getElem?_eq_some_iff.1 hu).1
    exact Res.same he (v' := vs'[i]) (by simp [execOp, Instr.extract, hx', Array.getElem?_eq_getElem hlt, Result.andThen, Sem.run]) (hc i _ _ hu (Array.getElem?_eq_getElem hlt))
   ·cases h
  ·cases h
 case slice t x lo hi mx =>
  simp only [ev1] at h
  split at h
  ·unfold Zkp at h
   split at h
   ·rename_i l m s1 hw
    obtain ⟨e1, e2, _⟩ := Z3 hw
    obtain ⟨h4, e3, e4⟩ := ZkY hob h
    obtain ⟨_, hq⟩ := Zee (o := ⟨dst, .slice t x lo hi none, type, pos, after, guard⟩) (s := s1) rfl hρ (e1 ▸ he) h4
    exact (hq.heap e1.symm e2.symm).behind e3 e4
   ·rename_i l m m2 cs s1 hw
    obtain ⟨e1, e2, _⟩ := Z3 hw
    obtain ⟨e3, e4, hq⟩ := ZiB (o := ⟨dst, .slice t x lo hi none, type, pos, after, guard⟩) (s := s1) rfl hρ (e1 ▸ he) hob h
    exact (hq.heap e1.symm e2.symm).behind e3 e4
   ·rename_i m c s1 hw
    obtain ⟨e1, e2, _⟩ := Z3 hw
    exact (ZkZ (o := ⟨dst, .slice t x lo hi none, type, pos, after, guard⟩) (s := s1) rfl hρ (e1 ▸ he) (e2 ▸ hf) hob h).heap e1.symm e2.symm
   ·rename_i M s1 hw
    obtain ⟨e1, e2, _⟩ := Z3 hw
    obtain ⟨e3, e4, hq⟩ := Zi8 (o := ⟨dst, .slice t x lo hi none, type, pos, after, guard⟩) (s := s1) rfl hρ (e1 ▸ he) hob h
    exact (hq.heap e1.symm e2.symm).behind e3 e4
   ·cases h
   ·rename_i s1 hw
    obtain ⟨e1, e2, _⟩ := Z3 hw
    split at h
    ·rename_i r hr
     injection h with h
     subst h
     obtain ⟨e1', hq⟩ := Zee (o := ⟨dst, .slice t x lo hi none, type, pos, after, guard⟩) (s := s1) rfl hρ (e1 ▸ he) hr
     subst e1'
     exact hq.heap e1.symm e2.symm
    ·split at h
     ·rename_i r hr
      injection h with h
      subst h
      exact (Zi7 (o := ⟨dst, .slice t x lo hi none, type, pos, after, guard⟩) (s := s1) rfl hρ (e1 ▸ he) hob hr).heap e1.symm e2.symm
     ·obtain ⟨rfl, hr⟩ := Zam (o := ⟨dst, .slice t x lo hi none, type, pos, after, guard⟩) (s := s1) (fun _ _ e => by cases e) hρ (e1 ▸ he) h
      exact hr.heap e1.symm e2.symm
  ·cases h
 case binOp op t x y yt =>
  by_cases hop : op = .rem
  ·subst hop
   simp only [ev1] at h
   split at h
   ·rename_i s1 hw
    obtain ⟨e1, e2, _⟩ := Z3 hw
    obtain ⟨e3, e4, hr⟩ := Zk2 (o := ⟨dst, .binOp .rem t x y yt, type, pos, after, guard⟩) (s := s1) rfl hρ (e1 ▸ he) hob h
    exact (hr.heap e1.symm e2.symm).behind e3 e4
   ·cases h
   ·rename_i s1 hw
    obtain ⟨e1, e2, _⟩ := Z3 hw
    obtain ⟨rfl, hr⟩ := ZcX (o := ⟨dst, .binOp .rem t x y yt, type, pos, after, guard⟩) (s := s1) rfl hρ (e1 ▸ he) h
    exact hr.heap e1.symm e2.symm
  ·by_cases hl : op = .shl
   ·subst hl
    simp only [ev1] at h
    split at h
    ·rename_i n s1 hw
     obtain ⟨e1, e2, _⟩ := Z3 hw
     obtain ⟨e3, e4, hr⟩ := ZhH (o := ⟨dst, .binOp .shl t x y yt, type, pos, after, guard⟩) (s := s1) rfl hρ (e1 ▸ he) hob h
     exact (hr.heap e1.symm e2.symm).behind e3 e4
    ·cases h
    ·rename_i s1 hw
     obtain ⟨e1, e2, _⟩ := Z3 hw
     obtain ⟨rfl, hr⟩ := ZcX (o := ⟨dst, .binOp .shl t x y yt, type, pos, after, guard⟩) (s := s1) rfl hρ (e1 ▸ he) h
     exact hr.heap e1.symm e2.symm
   ·by_cases hr : op = .shr
    ·subst hr
     simp only [ev1] at h
     split at h
     ·rename_i n s1 hw
      obtain ⟨e1, e2, _⟩ := Z3 hw
      obtain ⟨e3, e4, hr⟩ := ZhH (o := ⟨dst, .binOp .shr t x y yt, type, pos, after, guard⟩) (s := s1) rfl hρ (e1 ▸ he) hob h
      exact (hr.heap e1.symm e2.symm).behind e3 e4
     ·cases h
     ·rename_i s1 hw
      obtain ⟨e1, e2, _⟩ := Z3 hw
      obtain ⟨rfl, hr⟩ := ZcX (o := ⟨dst, .binOp .shr t x y yt, type, pos, after, guard⟩) (s := s1) rfl hρ (e1 ▸ he) h
      exact hr.heap e1.symm e2.symm
    ·by_cases ha : op = .add
     ·subst ha
      simp only [ev1] at h
      split at h
      ·obtain ⟨e3, e4, hr⟩ := Zlf (o := ⟨dst, .binOp .add t x y yt, type, pos, after, guard⟩) rfl hρ he hob h
       exact hr.behind e3 e4
      ·obtain ⟨rfl, hr⟩ := ZcX (o := ⟨dst, .binOp .add t x y yt, type, pos, after, guard⟩) rfl hρ he h
       exact hr
     ·have h : ZcO P ρ ⟨dst, .binOp op t x y yt, type, pos, after, guard⟩ op t x y s = some (v, s') := by cases op <;> first | exact h | exact absurd rfl hop | exact absurd rfl hl | exact absurd rfl hr | exact absurd rfl ha
      obtain ⟨rfl, hr⟩ := ZcX (o := ⟨dst, .binOp op t x y yt, type, pos, after, guard⟩) rfl hρ he h
      exact hr
 case makeSlice t l c =>
  simp only [ev1] at h
  split at h
  ·rename_i n cp cs s1 hw
   obtain ⟨e1, e2, _⟩ := Z3 hw
   obtain ⟨s2, h4, e3, e4⟩ := ZlS hob h
   exact ((ZdT (o := ⟨dst, .makeSlice t l c, type, pos, after, guard⟩) (s := s1) rfl hρ (e1 ▸ he) (e2 ▸ e4 ▸ hf) h4).heap e1.symm e2.symm).behind e3 e4
  ·cases h
  ·rename_i s1 hw
   obtain ⟨e1, e2, _⟩ := Z3 hw
   exact (ZdT (o := ⟨dst, .makeSlice t l c, type, pos, after, guard⟩) (s := s1) rfl hρ (e1 ▸ he) (e2 ▸ hf) h).heap e1.symm e2.symm
 case makeFunc fn a b =>
  simp only [ev1, Option.some.injEq, Prod.mk.injEq] at h
  obtain ⟨rfl, rfl⟩ := h
  have h1 := Zdw hρ a
  have h2 := Zdw hρ b
  exact Res.same he (v' := .func fn (a.map ρ') (b.map ρ')) (by simp [execOp, Instr.makeFunc, Result.andThen, Sem.run]) (.func h1.1 h2.1 h1.2 h2.2)
 case makeMap t r =>
  exact Zid (o := ⟨dst, .makeMap t r, type, pos, after, guard⟩) rfl hρ he hf h
 case range t x =>
  exact Zj9 (o := ⟨dst, .range t x, type, pos, after, guard⟩) rfl hρ he hf h
 case next it q =>
  exact Zkz (o := ⟨dst, .next it q, type, pos, after, guard⟩) rfl hρ he h
 case lookup t x ix ok =>
  simp only [ev1] at h
  split at h
  ·rename_i r s1 hw
   obtain ⟨e1, e2, _⟩ := Z3 hw
   obtain ⟨s2, h4, e3, e4⟩ := Zk0 hob h
   obtain ⟨e5, hr⟩ := Zf8 (o := ⟨dst, .lookup t x ix ok, type, pos, after, guard⟩) (s := s1) rfl hρ (e1 ▸ he) h4
   subst e5
   exact (hr.heap e1.symm e2.symm).behind e3 e4
  ·cases h
  ·rename_i s1 hw
   obtain ⟨e1, e2, _⟩ := Z3 hw
   obtain ⟨e5, hr⟩ := Zf8 (o := ⟨dst, .lookup t x ix ok, type, pos, after, guard⟩) (s := s1) rfl hρ (e1 ▸ he) h
   subst e5
   exact hr.heap e1.symm e2.symm
 case mapUpdate t m k x =>
  simp only [ev1] at h
  split at h
  ·rename_i l s1 hw
   obtain ⟨e1, e2, _⟩ := Z3 hw
   obtain ⟨s2, h4, e3, e4⟩ := Zk1 hob h
   exact ((Zf9 (o := ⟨dst, .mapUpdate t m k x, type, pos, after, guard⟩) (s := s1) rfl hρ (e1 ▸ he) h4).heap e1.symm e2.symm).behind e3 e4
  ·cases h
  ·rename_i s1 hw
   obtain ⟨e1, e2, _⟩ := Z3 hw
   exact (Zf9 (o := ⟨dst, .mapUpdate t m k x, type, pos, after, guard⟩) (s := s1) rfl hρ (e1 ▸ he) h).heap e1.symm e2.symm
 case makeInterface t x => obtain ⟨rfl, hr⟩ := Zam (o := ⟨dst, .makeInterface t x, type, pos, after, guard⟩) (fun _ _ e => by cases e) hρ he h; exact hr
 case unOp op t x => obtain ⟨rfl, hr⟩ := Zam (o := ⟨dst, .unOp op t x, type, pos, after, guard⟩) (fun _ _ e => by cases e) hρ he h; exact hr
 case convert a b x =>
  simp only [ev1] at h
  split at h
  ·split at h
   ·rename_i ns s1 hw
    obtain ⟨e1, e2, _⟩ := Z3 hw
    obtain ⟨e3, e4, hr⟩ := Zht (o := ⟨dst, .convert a b x, type, pos, after, guard⟩) (s := s1) rfl hρ (e1 ▸ he) hob h
    exact (hr.heap e1.symm e2.symm).behind e3 e4
   ·cases h
   ·rename_i s1 hw
    obtain ⟨e1, e2, _⟩ := Z3 hw
    obtain ⟨e3, hr⟩ := Zfp (o := ⟨dst, .convert a b x, type, pos, after, guard⟩) (s := s1) rfl hρ (e1 ▸ he) h
    subst e3
    exact hr.heap e1.symm e2.symm
  ·rename_i z hz
   have hz' : ρ' x = .string z := (hz ▸ hρ x).eq_of_atom rfl
   generalize hw : s.nextW = q at h
   obtain ⟨r, s1⟩ := q
   obtain ⟨e1, e2, _⟩ := Z3 hw
   simp only at h
   split at h
   ·rename_i r2 hr
    injection h with h
    subst h
    have hq := ZiI (o := ⟨dst, .convert a b x, type, pos, after, guard⟩) (s := s1) rfl hz' (e1 ▸ he) (e2 ▸ hf) hob hr
    exact hq.heap e1.symm e2.symm
   ·obtain ⟨e3, hr⟩ := Zam (o := ⟨dst, .convert a b x, type, pos, after, guard⟩) (s := s1) (fun _ _ e => by cases e) hρ (e1 ▸ he) h
    subst e3
    exact hr.heap e1.symm e2.symm
  ·split at h
   ·rename_i r hr
    injection h with h
    subst h
    obtain ⟨e1, hq⟩ := Zfp (o := ⟨dst, .convert a b x, type, pos, after, guard⟩) rfl hρ he hr
    subst e1
    exact hq
   ·obtain ⟨rfl, hr⟩ := Zam (o := ⟨dst, .convert a b x, type, pos, after, guard⟩) (fun _ _ e => by cases e) hρ he h; exact hr
 case call c =>
  simp only [ev1] at h
  split at h
  ·rename_i b hc
   exact Zie (o := ⟨dst, .call c, type, pos, after, guard⟩) rfl hc hρ he hf hob h
  ·cases h
 all_goals (simp [ev1] at h)
theorem Zm5 {o : Oper} {v v1 : Value} {s1 : St} (h : Ziz o v s = (v1, s1)) (hob : ∀ p ∈ s1.ob, p.1 = p.2) : v1 = v ∧ s1.h = s.h ∧ s1.n = s.n := by
 unfold Ziz at h
 split at h
 all_goals first
  | (generalize hq : s.tst _ = q at h; obtain ⟨b, s2⟩ := q; simp only [Prod.mk.injEq] at h; obtain ⟨rfl, rfl⟩ := h; obtain ⟨rfl, e1, e2⟩ := Zf2 hq hob; exact ⟨rfl, e1, e2⟩)
  | (generalize hq : s.vst _ = q at h; obtain ⟨b, s2⟩ := q; simp only [Prod.mk.injEq] at h; obtain ⟨rfl, rfl⟩ := h; obtain ⟨rfl, e1, e2⟩ := ZmV hq hob; exact ⟨rfl, e1, e2⟩)
  | (simp only [Prod.mk.injEq] at h; obtain ⟨rfl, rfl⟩ := h; exact ⟨rfl, rfl, rfl⟩)
end

/-! ### Numbers rise, and answers stay -/
theorem ZL {a b : List (Bool × Bool)} (h : a <:+ b) (hb : ∀ p ∈ b, p.1 = p.2) : ∀ p ∈ a, p.1 = p.2 := fun p hp => hb p (h.subset hp)
structure Up (s s' : St) : Prop where
 n : s.n ≤ s'.n
 ob : s.ob <:+ s'.ob
 log : ∃ l, s'.wr = l ++ s.wr ∧ ∀ k, k ∉ l → ¬ (s.n ≤ k ∧ k < s'.n) → s'.h.get k = s.h.get k
theorem Up.refl (s : St) : Up s s := ⟨Nat.le_refl _, List.suffix_refl _, [], rfl, fun _ _ _ => rfl⟩
theorem Up.trans {a b c : St} (h : Up a b) (k : Up b c) : Up a c := by
 obtain ⟨l, h1, h2⟩ := h.log
 obtain ⟨m, k1, k2⟩ := k.log
 refine ⟨Nat.le_trans h.n k.n, h.ob.trans k.ob, m ++ l, by rw [k1, h1, List.append_assoc], fun j hj hn => ?_⟩
 have := h.n
 have := k.n
 rw [k2 j (fun e => hj (List.mem_append_left _ e)) (by omega), h2 j (fun e => hj (List.mem_append_right _ e)) (by omega)]
theorem ZcY {s s1 : St} {t b : Bool} (h : s.tst t = (b, s1)) : Up s s1 := by
 unfold St.tst at h
 split at h <;> (injection h with h1 h2; subst h1 h2)
 ·exact Up.refl _
 ·exact ⟨Nat.le_refl _, List.suffix_refl _, [], rfl, fun _ _ _ => rfl⟩
 ·exact ⟨Nat.le_refl _, List.suffix_cons _ _, [], rfl, fun _ _ _ => rfl⟩
theorem ZmX {s s1 : St} {x y : Int} (h : s.vst x = (y, s1)) : Up s s1 := by
 unfold St.vst at h
 split at h <;> (injection h with h1 h2; subst h1 h2)
 ·exact Up.refl _
 ·exact ⟨Nat.le_refl _, List.suffix_refl _, [], rfl, fun _ _ _ => rfl⟩
 ·exact ⟨Nat.le_refl _, List.suffix_cons _ _, [], rfl, fun _ _ _ => rfl⟩
theorem Zah {s s1 : St} {k o : Nat} {l : List Value} (h : Za0 s k o l = some s1) : Up s s1 := by
 unfold Za0 at h
 split at h
 ·replace h := Zh h
  obtain ⟨_, h⟩ := h
  injection h with h
  subst h
  refine ⟨Nat.le_refl _, List.suffix_refl _, [k], rfl, fun j hj _ => ?_⟩
  show (s.h.set k _).get j = _
  rw [Tr.get_set, Zg (by simpa using hj)]
 ·cases h
section
variable {P : Program} {ρ : Operand → Value} {s s' : St} {v : Value}
theorem ZT {o : Oper} (h : ZaJ P ρ o s = some (v, s')) : Up s s' := by
 unfold ZaJ at h
 replace h := (Zh h).2
 split at h
 ·replace h := (Zh h).2
  injection h with h; injection h with h1 h2; subst h1 h2; exact Up.refl _
 ·cases h
theorem up_add {c : List Value} {t : TypeId} : Up s (s.add c t) := ⟨Nat.le_succ _, List.suffix_refl _, [], rfl, fun j _ hn => by
 show (s.h.set s.n _).get j = _
 rw [Tr.get_set, Zg (fun e => hn ⟨by omega, by show j < s.n + 1; omega⟩)]⟩
theorem up_turn {k : Nat} {c : List Value} {t : TypeId} {q : Bool} : Up s (s.turn k c t q) := ⟨Nat.le_succ _, List.suffix_refl _, [k], rfl, fun j hj hn => by
 show ((s.h.set k none).set s.n _).get j = _
 rw [Tr.get_set, Zg (fun e => hn ⟨by omega, by show j < s.n + 1; omega⟩), Tr.get_set, Zg (by simpa using hj)]⟩
theorem Zlh {t tx : TypeId} {x y : Value} (h : ZaB P s t tx x y = some (v, s')) : Up s s' := by
 unfold ZaB at h
 try simp only [cond_eq_ite] at h
 repeat' (split at h)
 all_goals first
  | (cases h; done)
  | (injection h with h; injection h with h1 h2; subst h1 h2; first | exact Up.refl _ | exact up_add | exact up_turn | exact Zah (by assumption))
  | exact ZT h
theorem Zif {t n : Nat} {ps : Array (Nat × Operand)} (h : ZbT P ρ t n ps s = some (v, s')) : Up s s' := by
 unfold ZbT at h
 try simp only [cond_eq_ite] at h
 repeat' (split at h)
 all_goals first
  | (cases h; done)
  | (injection h with h; injection h with h1 h2; subst h1 h2; first | exact Up.refl _ | exact up_add | exact up_turn | exact Zah (by assumption))
  | exact ZT h
theorem ZlV {t : Nat} {ps : Array (Nat × Operand)} (h : Zen P ρ t ps s = some (v, s')) : Up s s' := by
 unfold Zen at h
 try simp only [cond_eq_ite] at h
 repeat' (split at h)
 all_goals first
  | (cases h; done)
  | (injection h with h; injection h with h1 h2; subst h1 h2; first | exact Up.refl _ | exact up_add | exact up_turn | exact Zah (by assumption))
  | exact ZT h
theorem ZlW {t : Nat} {a x : Operand} (h : ZcC P ρ t a x s = some (v, s')) : Up s s' := by
 unfold ZcC at h
 try simp only [cond_eq_ite] at h
 repeat' (split at h)
 all_goals first
  | (cases h; done)
  | (injection h with h; injection h with h1 h2; subst h1 h2; first | exact Up.refl _ | exact up_add | exact up_turn | exact Zah (by assumption))
  | exact ZT h
theorem ZiJ {t f : Nat} {x : Operand} (h : Zcj P ρ t x f s = some (v, s')) : Up s s' := by
 unfold Zcj at h
 try simp only [cond_eq_ite] at h
 repeat' (split at h)
 all_goals first
  | (cases h; done)
  | (injection h with h; injection h with h1 h2; subst h1 h2; first | exact Up.refl _ | exact up_add | exact up_turn | exact Zah (by assumption))
  | exact ZT h
theorem ZlX {t f : Nat} {x : Operand} (h : Zep P ρ t x f s = some (v, s')) : Up s s' := by
 unfold Zep at h
 try simp only [cond_eq_ite] at h
 repeat' (split at h)
 all_goals first
  | (cases h; done)
  | (injection h with h; injection h with h1 h2; subst h1 h2; first | exact Up.refl _ | exact up_add | exact up_turn | exact Zah (by assumption))
  | exact ZT h
theorem ZlY {t : Nat} {x ix : Operand} (h : Zeq P ρ t x ix s = some (v, s')) : Up s s' := by
 unfold Zeq at h
 try simp only [cond_eq_ite] at h
 repeat' (split at h)
 all_goals first
  | (cases h; done)
  | (injection h with h; injection h with h1 h2; subst h1 h2; first | exact Up.refl _ | exact up_add | exact up_turn | exact Zah (by assumption))
  | exact ZT h
theorem ZfB {t : Nat} {x ix : Operand} (h : ZaS P ρ t x ix s = some (v, s')) : Up s s' := by
 unfold ZaS at h
 try simp only [cond_eq_ite] at h
 repeat' (split at h)
 all_goals first
  | (cases h; done)
  | (injection h with h; injection h with h1 h2; subst h1 h2; first | exact Up.refl _ | exact up_add | exact up_turn | exact Zah (by assumption))
  | exact ZT h
theorem Zgy {t : Nat} {x : Operand} {lo hi : Option Operand} (h : ZbJ P ρ t x lo hi s = some (v, s')) : Up s s' := by
 unfold ZbJ at h
 try simp only [cond_eq_ite] at h
 repeat' (split at h)
 all_goals first
  | (cases h; done)
  | (injection h with h; injection h with h1 h2; subst h1 h2; first | exact Up.refl _ | exact up_add | exact up_turn | exact Zah (by assumption))
  | exact ZT h
theorem ZiK {t : Nat} {l c : Operand} (h : Zbr P ρ t l c s = some (v, s')) : Up s s' := by
 unfold Zbr at h
 try simp only [cond_eq_ite] at h
 repeat' (split at h)
 all_goals first
  | (cases h; done)
  | (injection h with h; injection h with h1 h2; subst h1 h2; first | exact Up.refl _ | exact up_add | exact up_turn | exact Zah (by assumption))
  | exact ZT h
theorem ZgV {a b : TypeId} {x : Operand} (h : Zcu P ρ a b x s = some (v, s')) : Up s s' := by
 unfold Zcu at h
 try simp only [cond_eq_ite] at h
 repeat' (split at h)
 all_goals first
  | (cases h; done)
  | (injection h with h; injection h with h1 h2; subst h1 h2; first | exact Up.refl _ | exact up_add | exact up_turn | exact Zah (by assumption))
  | exact ZT h
theorem ZiL {o : Oper} {op : BinOp} {t : TypeId} {x y : Operand} (h : ZcO P ρ o op t x y s = some (v, s')) : Up s s' := by
 unfold ZcO at h
 split at h
 ·injection h with h; injection h with h1 h2; subst h1 h2; exact Up.refl _
 ·injection h with h; injection h with h1 h2; subst h1 h2; exact Up.refl _
 split at h
 ·rename_i r hr
  injection h with h; subst h
  exact ZT hr
 ·split at h <;> first | (cases h; done) | (injection h with h; injection h with h1 h2; subst h1 h2; exact Up.refl _)
theorem Zz {s s1 : St} {a : Option Zeb} (h : s.nextW = (a, s1)) : Up s s1 := by
 unfold St.nextW at h
 split at h <;> (injection h with h1 h2; subst h1 h2; exact ⟨Nat.le_refl _, List.suffix_refl _, [], rfl, fun _ _ _ => rfl⟩)
theorem Z9 (q : Bool) : Up s (s.told q) := ⟨Nat.le_refl _, List.suffix_cons _ _, [], rfl, fun _ _ _ => rfl⟩
theorem up_putK {k : Nat} {c : List Value} {t : TypeId} {q : Bool} : Up s (s.putK k c t q) := ⟨Nat.le_refl _, List.suffix_refl _, [k], rfl, fun j hj _ => by
 show (s.h.set k _).get j = _
 rw [Tr.get_set, Zg (by simpa using hj)]⟩
theorem ZhI {t : Nat} {a x : Operand} {c : List Value} (h : Zcp P ρ t a x c s = some (v, s')) : Up s s' := by
 unfold Zcp at h
 try simp only [cond_eq_ite] at h
 repeat' (split at h)
 all_goals first
  | (cases h; done)
  | (injection h with h; injection h with h1 h2; subst h1 h2; exact up_putK.trans (Z9 _))
theorem Zli {t : Nat} {a x : Operand} {k : Nat} {cs : List Cell} {c : List Value} (h : Zd1 P ρ t a x k cs c s = some (v, s')) : Up s s' := by
 unfold Zd1 at h
 split at h
 ·refine Up.trans (b := (⟨s.h.set k none, s.n, k :: s.wr, s.orc, s.ob⟩ : St)) ⟨Nat.le_refl _, List.suffix_refl _, [k], rfl, fun j hj _ => ?_⟩ ((Z9 _).trans (ZhI h))
  show (s.h.set k none).get j = _
  rw [Tr.get_set, Zg (by simpa using hj)]
 ·cases h
theorem Zm6 {x y : Operand} (h : Zfy ρ x y s = some (v, s')) : Up s s' := by
 unfold Zfy at h
 split at h
 ·injection h with h; injection h with h1 h2; subst h1 h2; exact Z9 _
 ·cases h
theorem ZmY {op : BinOp} {x y : Operand} {n : Nat} (h : ZfW ρ op x y n s = some (v, s')) : Up s s' := by
 unfold ZfW at h
 split at h
 ·injection h with h; injection h with h1 h2; subst h1 h2; exact Z9 _
 ·injection h with h; injection h with h1 h2; subst h1 h2; exact Z9 _
 ·cases h
theorem Zlj {x y : Operand} (h : ZgI ρ x y s = some (v, s')) : Up s s' := by
 unfold ZgI at h
 split at h
 ·injection h with h; injection h with h1 h2; subst h1 h2; exact Z9 _
 ·cases h
theorem Zlk {t : Nat} {x : Operand} {lo hi : Option Operand} {l m : Nat} (h : Zd4 P ρ t x lo hi l m s = some (v, s')) : Up s s' := by
 unfold Zd4 at h
 try simp only [cond_eq_ite] at h
 repeat' (split at h)
 all_goals first
  | (cases h; done)
  | (injection h with h; injection h with h1 h2; subst h1 h2; exact ((Z9 _).trans (Z9 _)).trans (Z9 _))
theorem Zll {t : Nat} {x : Operand} {lo hi : Option Operand} {l m m2 : Nat} {cs : List Cell} (h : Zd5 P ρ t x lo hi l m m2 cs s = some (v, s')) : Up s s' := by
 unfold Zd5 at h
 repeat' (split at h)
 all_goals first
  | (cases h; done)
  | (injection h with h; injection h with h1 h2; subst h1 h2; exact ((Z9 _).trans (Z9 _)).trans (Z9 _))
theorem ZjC {a b : TypeId} {x : Operand} {ns : List Int} (h : Zc1 P ρ a b x ns s = some (v, s')) : Up s s' := by
 unfold Zc1 at h
 repeat' (split at h)
 all_goals first
  | (cases h; done)
  | (injection h with h; injection h with h1 h2; subst h1 h2; exact Z9 _)
theorem Zm7 {t : Nat} {x : Operand} {lo hi : Option Operand} {m : Nat} {c : List Value} (h : Zfw P ρ t x lo hi m c s = some (v, s')) : Up s s' := by
 unfold Zfw at h
 try simp only [cond_eq_ite] at h
 repeat' (split at h)
 all_goals first
  | (cases h; done)
  | (injection h with h; injection h with h1 h2; subst h1 h2; exact ((up_turn.trans (Z9 _)).trans (Z9 _)).trans (Z9 _))
theorem ZlZ {t : Nat} {l c : Operand} {n cp : Nat} {cs : List Value} (h : Zes P ρ t l c n cp cs s = some (v, s')) : Up s s' := by
 unfold Zes at h
 try simp only [cond_eq_ite] at h
 repeat' (split at h)
 all_goals first
  | (cases h; done)
  | (injection h with h; injection h with h1 h2; subst h1 h2; exact ((up_add.trans (Z9 _)).trans (Z9 _)).trans (Z9 _))
theorem Zk3 {t tx : TypeId} {x y : Value} {m : Nat} {l c : List Value} (h : Zeo P s t tx x y m l c = some (v, s')) : Up s s' := by
 unfold Zeo at h
 try simp only [cond_eq_ite] at h
 repeat' (split at h)
 all_goals first
  | (cases h; done)
  | (injection h with h; injection h with h1 h2; subst h1 h2; first | exact up_add.trans (Z9 _) | exact up_turn.trans (Z9 _))
theorem ZjD {t tx : TypeId} {x y : Value} {m : Nat} {l c : List Value} (h : Zd2 P s t tx x y m l c = some (v, s')) : Up s s' := by
 unfold Zd2 at h
 try simp only [cond_eq_ite] at h
 repeat' (split at h)
 all_goals first
  | (cases h; done)
  | (injection h with h; injection h with h1 h2; subst h1 h2; exact up_putK.trans (Z9 _))
theorem ZjE {t tx : TypeId} {x y : Value} (h : Zd3 P s t tx x y = some (v, s')) : Up s s' := by
 unfold Zd3 at h
 try simp only [cond_eq_ite] at h
 repeat' (split at h)
 all_goals first
  | (cases h; done)
  | (injection h with h; injection h with h1 h2; subst h1 h2; exact Z9 _)
theorem Zk4 {kk : IntKind} {e : Nat} {args : Array Value} {z : Int} {c : List Value} (h : ZcQ kk e args z c s = some (v, s')) : Up s s' := by
 unfold ZcQ at h
 repeat' (split at h)
 all_goals first
  | (cases h; done)
  | (injection h with h; injection h with h1 h2; subst h1 h2; first | exact Z9 _ | exact up_putK.trans (Z9 _) | exact ((Z9 _).trans (ZcY (by assumption))) | exact (((Z9 _).trans (ZcY (by assumption))).trans up_putK).trans (Z9 _))
theorem ZjU {O : Obj} : Up s (s.addM O) := ⟨Nat.le_succ _, List.suffix_refl _, [], rfl, fun j _ hn => by
 show (s.h.set s.n _).get j = _
 rw [Tr.get_set, Zg (by intro e; subst e; exact hn ⟨Nat.le_refl _, Nat.lt_succ_self _⟩)]⟩
theorem up_putM {k : Nat} {O : Obj} : Up s (s.putM k O) := ⟨Nat.le_refl _, List.suffix_refl _, [k], rfl, fun j hj _ => by
 show (s.h.set k _).get j = _
 rw [Tr.get_set, Zg (by intro e; subst e; exact hj (List.mem_singleton.2 rfl))]⟩
theorem Zma {t : TypeId} {x : Value} (h : Zev P s t x = some (v, s')) : Up s s' := by
 unfold Zev at h
 repeat' (split at h)
 all_goals first
  | (cases h; done)
  | (injection h with h; injection h with h1 h2; subst h1 h2; first | exact Up.refl _ | exact up_putM)
theorem Zlm {t : TypeId} {x k : Value} (h : ZdB P s t x k = some (v, s')) : Up s s' := by
 unfold ZdB at h
 repeat' (split at h)
 all_goals first
  | (cases h; done)
  | skip
 all_goals (replace h := (Zh h).2)
 all_goals first
  | (cases h; done)
  | (injection h with h; injection h with h1 h2; subst h1 h2; exact up_putM)
theorem Zmb {t : TypeId} {x : Operand} (h : Zeu P ρ t x s = some (v, s')) : Up s s' := by
 unfold Zeu at h
 repeat' (split at h)
 all_goals first
  | (cases h; done)
  | (injection h with h; injection h with h1 h2; subst h1 h2; exact ZjU)
theorem Zm8 {it : Operand} {q : Bool} (h : Zf1 ρ it q s = some (v, s')) : Up s s' := by
 unfold Zf1 at h
 repeat' (split at h)
 all_goals first
  | (cases h; done)
  | (injection h with h; injection h with h1 h2; subst h1 h2; first | exact up_putM | exact Up.refl _)
theorem Zk5 {t : TypeId} {r : Option Operand} (h : ZcT P ρ t r s = some (v, s')) : Up s s' := by
 unfold ZcT at h
 repeat' (split at h)
 all_goals first
  | (cases h; done)
  | (injection h with h; injection h with h1 h2; subst h1 h2; exact ZjU)
theorem Zln {t : TypeId} {x ix : Operand} {ok : Bool} (h : Zb8 P ρ t x ix ok s = some (v, s')) : Up s s' := by
 unfold Zb8 at h
 repeat' (split at h)
 all_goals first
  | (cases h; done)
  | skip
 all_goals (replace h := (Zh h).2)
 all_goals first
  | (cases h; done)
  | (replace h := (Zh h).2; injection h with h; injection h with h1 h2; subst h1 h2; exact Up.refl _)
theorem Zk6 {t : TypeId} {x ix : Operand} {ok : Bool} {r : Option Value} (h : ZcR P ρ t x ix ok r s = some (v, s')) : Up s s' := by
 unfold ZcR at h
 repeat' (split at h)
 all_goals first
  | (cases h; done)
  | skip
 all_goals (replace h := (Zh h).2; injection h with h; injection h with h1 h2; subst h1 h2; exact Z9 _)
theorem Zlo {t : TypeId} {m k x : Operand} (h : Zb9 P ρ t m k x s = some (v, s')) : Up s s' := by
 unfold Zb9 at h
 repeat' (split at h)
 all_goals first
  | (cases h; done)
  | skip
 all_goals (replace h := (Zh h).2)
 all_goals first
  | (cases h; done)
  | (injection h with h; injection h with h1 h2; subst h1 h2; exact up_putM)
theorem Zk7 {t : TypeId} {m k x : Operand} {l : List MapEntry} (h : ZcS P ρ t m k x l s = some (v, s')) : Up s s' := by
 unfold ZcS at h
 repeat' (split at h)
 all_goals first
  | (cases h; done)
  | skip
 all_goals (replace h := (Zh h).2; injection h with h; injection h with h1 h2; subst h1 h2; exact up_putM.trans (Z9 _))
theorem Zk8 {o : Oper} {c : Call} {b : Builtin} (h : ZcU P ρ o c b s = some (v, s')) : Up s s' := by
 unfold ZcU at h
 split at h
 ·split at h
  ·split at h
   ·exact (Zz (by assumption)).trans (Zk3 h)
   ·exact (Zz (by assumption)).trans (ZjD h)
   ·exact (Zz (by assumption)).trans (ZjE h)
   ·cases h
   ·exact (Zz (by assumption)).trans (Zlh h)
  ·cases h
 ·split at h
  ·split at h
   ·injection h with h; injection h with h1 h2; subst h1 h2; exact Up.refl _
   ·split at h
    ·injection h with h; injection h with h1 h2; subst h1 h2; exact Up.refl _
    ·cases h
   ·exact ZT h
  ·cases h
 ·split at h
  ·exact Zlm h
  ·cases h
 ·split at h
  ·exact Zma h
  ·cases h
 ·exact ZT h
theorem ZiM {s s1 : St} {a : Option Nat} (h : s.nextX = (a, s1)) : Up s s1 := by
 unfold St.nextX at h
 split at h <;> (injection h with h1 h2; subst h1 h2)
 ·exact Up.refl _
 ·exact ⟨Nat.le_refl _, List.suffix_refl _, [], rfl, fun _ _ _ => rfl⟩
theorem ZiN {s s1 : St} {a : Option (List Cell)} (h : s.nextL = (a, s1)) : Up s s1 := by
 unfold St.nextL at h
 split at h <;> (injection h with h1 h2; subst h1 h2)
 ·exact Up.refl _
 ·exact ⟨Nat.le_refl _, List.suffix_refl _, [], rfl, fun _ _ _ => rfl⟩
theorem up_told {s : St} {q : Bool} : Up s (s.told q) := ⟨Nat.le_refl _, List.suffix_cons _ _, [], rfl, fun _ _ _ => rfl⟩
theorem Zig {t : Nat} {x ix : Operand} {i : Nat} (h : ZbU P ρ t x ix i s = some (v, s')) : Up s s' := by
 unfold ZbU at h
 repeat' (split at h)
 all_goals first
  | (cases h; done)
  | (injection h with h; injection h with h1 h2; subst h1 h2; exact up_told.trans up_told)
theorem Zmc {t : Nat} {a : Operand} {l : List Cell} (h : Zer P ρ t a l s = some (v, s')) : Up s s' := by
 unfold Zer at h
 repeat' (split at h)
 all_goals first
  | (cases h; done)
  | (injection h with h; injection h with h1 h2; subst h1 h2; exact up_told)
theorem Zlp {t : Nat} {x : Operand} {lo hi : Option Operand} {M : List Int} (h : Zd7 P ρ t x lo hi M s = some (v, s')) : Up s s' := by
 unfold Zd7 at h
 split at h
 ·split at h
  ·injection h with h; injection h with h1 h2; subst h1 h2; exact up_told
  ·cases h
 ·cases h
theorem Zlq {t : Nat} {x ix : Operand} {c : List Int} (h : Zd8 P ρ t x ix c s = some (v, s')) : Up s s' := by
 unfold Zd8 at h
 split at h
 ·injection h with h; injection h with h1 h2; subst h1 h2; exact up_told
 ·cases h
theorem ZfC {t : Nat} {x : Operand} {lo hi : Option Operand} (h : Zd6 P ρ t x lo hi s = some (v, s')) : Up s s' := by
 unfold Zd6 at h
 split at h
 ·split at h
  ·replace h := (Zh h).2
   split at h
   ·injection h with h; injection h with h1 h2; subst h1 h2; exact ZcY (by assumption)
   ·cases h
  ·cases h
 ·cases h
theorem ZjV {o : Oper} {t : Nat} {x : Operand} {lo hi : Option Operand} (h : Zkp P ρ o t x lo hi s = some (v, s')) : Up s s' := by
 unfold Zkp at h
 split at h
 ·exact (Zz (by assumption)).trans (Zlk h)
 ·exact (Zz (by assumption)).trans (Zll h)
 ·exact (Zz (by assumption)).trans (Zm7 h)
 ·exact (Zz (by assumption)).trans (Zlp h)
 ·cases h
 ·split at h
  ·injection h with h; subst h; exact (Zz (by assumption)).trans (Zgy (by assumption))
  ·split at h
   ·injection h with h; subst h; exact (Zz (by assumption)).trans (ZfC (by assumption))
   ·exact (Zz (by assumption)).trans (ZT h)
theorem Zlr {a b : TypeId} {z : ByteArray} {r : Option Zeb} (h : Zd9 P a b z r s = some (v, s')) : Up s s' := by
 unfold Zd9 at h
 repeat' (split at h)
 all_goals first
  | (cases h; done)
  | skip
 all_goals (replace h := (Zh h).2)
 all_goals (repeat' (split at h))
 all_goals first
  | (cases h; done)
  | (injection h with h; injection h with h1 h2; subst h1 h2; first | exact up_add | exact up_add.trans (Z9 _))
theorem ZmZ {o : Oper} (h : ev1 P ρ o s = some (v, s')) : Up s s' := by
 unfold ev1 at h
 split at h
 all_goals first
  | exact ZjV h | exact Zif h | exact ZlV h | exact ZiJ h | exact ZlX h | exact ZfB h | exact ZiL h | exact Zlj h | exact ZT h
  | (injection h with h; injection h with h1 h2; subst h1 h2; first | exact Up.refl _ | exact up_add)
  | (cases h; done)
  | skip
 ·split at h
  ·split at h <;> (injection h with h; injection h with h1 h2; subst h1 h2; exact Up.refl _)
  ·cases h
 all_goals (repeat' (split at h))
 all_goals first
  | (cases h; done)
  | exact (Zz (by assumption)).trans (ZhI h)
  | exact (Zz (by assumption)).trans (Zli h)
  | exact (Zz (by assumption)).trans (ZlW h)
  | exact (Zz (by assumption)).trans (Zm6 h)
  | exact (Zz (by assumption)).trans (ZmY h)
  | exact (Zz (by assumption)).trans (ZiL h)
  | exact Zlj h
  | exact ZiL h
  | exact Zk5 h
  | exact Zmb h
  | exact Zm8 h
  | exact (Zz (by assumption)).trans (Zk6 h)
  | exact (Zz (by assumption)).trans (Zln h)
  | exact (Zz (by assumption)).trans (Zk7 h)
  | exact (Zz (by assumption)).trans (Zlo h)
  | exact ZjV h
  | exact (Zz (by assumption)).trans (ZlZ h)
  | exact (Zz (by assumption)).trans (ZjC h)
  | exact (Zz (by assumption)).trans (ZgV h)
  | exact (Zz (by assumption)).trans (ZiK h)
  | exact (Zz (by assumption)).trans (Zlq h)
  | exact (Zz (by assumption)).trans (ZT h)
  | (injection h with h; subst h; first | exact (Zz (by assumption)).trans (Zgy (by assumption)) | exact (Zz (by assumption)).trans (ZfC (by assumption)))
  | exact (ZiN (by assumption)).trans (Zmc h)
  | exact (ZiM (by assumption)).trans (Zig h)
  | exact (ZiM (by assumption)).trans (ZfB h)
  | (injection h with h; injection h with h1 h2; subst h1 h2; exact ZiN (by assumption))
  | exact Zk8 h
  | exact ZT h
  | (injection h with h; injection h with h1 h2; subst h1 h2; first | exact Up.refl _ | exact up_add)
  | (injection h with h; subst h; exact (Zz (by assumption)).trans (Zlr (by assumption)))
  | (injection h with h; subst h; first | exact ZlY (by assumption) | exact Zgy (by assumption) | exact ZfC (by assumption) | exact ZgV (by assumption))
theorem Zm9 {n : Nat} {args : Array Value} (h : Zfz n args s = some (v, s')) : Up s s' := by
 unfold Zfz at h
 split at h
 ·injection h with h; injection h with h1 h2; subst h1 h2; exact Up.refl _
 ·injection h with h; injection h with h1 h2; subst h1 h2; exact Up.refl _
 ·cases h
theorem Zls {kk : IntKind} {e : Nat} {args : Array Value} (h : ZaZ kk e args s = some (v, s')) : Up s s' := by
 unfold ZaZ at h
 repeat' (split at h)
 all_goals first
  | (cases h; done)
  | (injection h with h; injection h with h1 h2; subst h1 h2; first | exact Up.refl _ | exact Zah (by assumption) | exact ZcY (by assumption) | exact (ZcY (by assumption)).trans (Zah (by assumption)))
theorem ZjW {o : Oper} {v1 : Value} {s1 : St} (h : Ziz o v s = (v1, s1)) : Up s s1 := by
 unfold Ziz at h
 split at h
 all_goals first
  | (generalize hq : s.tst _ = q at h; obtain ⟨b, s2⟩ := q; simp only [Prod.mk.injEq] at h; obtain ⟨rfl, rfl⟩ := h; exact ZcY hq)
  | (generalize hq : s.vst _ = q at h; obtain ⟨b, s2⟩ := q; simp only [Prod.mk.injEq] at h; obtain ⟨rfl, rfl⟩ := h; exact ZmX hq)
  | (simp only [Prod.mk.injEq] at h; obtain ⟨rfl, rfl⟩ := h; exact Up.refl _)
end
mutual
inductive Dec (w : World) : Nat → Nat → Nat → Prop
 | mk {b base id : Nat} {c : List Cell} {C : Array Value} {t : TypeId} {fr : Nat × Nat} (h1 : decode id = some c) (h2 : w.heap[b]? = some (.cells C t fr)) (h3 : 0 < c.length → base + c.length ≤ C.size) (h4 : ∀ (i : Nat) (x : Cell) (y : Value), c[i]? = some x → C[base + i]? = some y → DecC w x y) : Dec w b base id
inductive DecC (w : World) : Cell → Value → Prop
 | i {n : Int} : DecC w (.i n) (.int .i64 n)
 | k {q : IntKind} {n : Int} : DecC w (.k q n) (.int q n)
 | b {q : Bool} : DecC w (.b q) (.bool q)
 | s {x : ByteArray} : DecC w (.s x) (.string x)
 | m0 {id o : Nat} {a : Option Addr} : DecC w (.m id o 0 0) (.slice a 0 0)
 | m {b base id o n c c' : Nat} (h : Dec w b base id) (hn : n ≤ c) (hc : c ≤ c') : DecC w (.m id o n c) (.slice (some ⟨b, base + o, none⟩) n c')
end
noncomputable def ιMk (w : World) : Ren := fun k => @dite _ (∃ b base id, k = Z7 b base id ∧ Dec w b base id) (Classical.propDecidable _) (fun h => some (h.choose, 0)) (fun _ => none)
theorem ιMk_of {w : World} {b base id : Nat} (h : Dec w b base id) : ιMk w (Z7 b base id) = some (b, 0) := by
 have hex : ∃ b' base' id', Z7 b base id = Z7 b' base' id' ∧ Dec w b' base' id' := ⟨b, base, id, rfl, h⟩
 unfold ιMk
 rw [dif_pos hex]
 obtain ⟨base', id', h1, _⟩ := hex.choose_spec
 rw [← (Zgt h1).1]
theorem ιMk_inv {w : World} {k : Nat} {q : Nat × Nat} (h : ιMk w k = some q) : ∃ b base id, k = Z7 b base id ∧ q = (b, 0) ∧ Dec w b base id := by
 unfold ιMk at h
 by_cases hex : ∃ b' base' id', k = Z7 b' base' id' ∧ Dec w b' base' id'
 ·rw [dif_pos hex] at h
  injection h with h
  obtain ⟨base', id', h1, h2⟩ := hex.choose_spec
  exact ⟨_, base', id', h1, h.symm, h2⟩
 ·rw [dif_neg hex] at h; cases h
theorem DecC.vr {w : World} {x : Cell} {y : Value} (h : DecC w x y) : VR (ιMk w) (ZaP x) y := by
 cases h with
 | i => exact .atom rfl
 | k => exact .atom rfl
 | b => exact .atom rfl
 | s => exact .atom rfl
 | m0 => exact .slice0 fun _ => rfl
 | m h hn hc => exact .mslice (ιMk_of h) hn hc
def TabW (w : World) : Prop := ∀ x ∈ tabs, ∃ C t fr, w.heap[x.1]? = some (.cells C t fr) ∧ TabC x.2 C
theorem ZmA : Zr (fun x : Nat × List Cell => Zr atom (Zt x.2)) tabs = true := by rfl
theorem Zmd {w : World} {x : Cell} (h : atom (ZaP x) = true) : DecC w x (ZaP x) := by
 cases x with
 | i n => exact .i
 | b q => exact .b
 | k q n => exact .k
 | s x => exact .s
 | any => exact (Bool.false_ne_true h).elim
 | m id o n c => exact (Bool.false_ne_true h).elim
theorem TabW.dec {w : World} (h : TabW w) : ∀ x ∈ tabs, Dec w x.1 0 (code x.2) := fun x hx => by
 obtain ⟨C, t, fr, h1, hC⟩ := h x hx
 obtain ⟨g, l⟩ := x
 cases l with
 | nil => exact .mk (ZaR []) h1 (fun h => by simp at h) fun i z y hz hy => by simp at hz
 | cons z0 l =>
 obtain rfl : C = _ := hC
 generalize hx2 : (g, z0 :: l) = x at *
 obtain rfl : g = x.1 := by rw [← hx2]
 have e2 : z0 :: l = x.2 := by rw [← hx2]
 have ha := Z2 ZmA x hx
 have hl : (Zt x.2).length = x.2.length := by unfold Zt; rw [List.length_map]
 refine .mk (ZaR x.2) h1 (fun _ => by simp [hl]) fun i z y hz hy => ?_
 have hv : (Zt x.2)[i]? = some (ZaP z) := by unfold Zt; rw [List.getElem?_map, hz]; rfl
 rw [Nat.zero_add, List.getElem?_toArray, hv] at hy
 injection hy with hy
 subst hy
 exact Zmd (Z2 ha _ (List.mem_of_getElem? hv))
theorem Emb.tabw {P : Program} {ι : Ren} {h : AH} {w : World} (e : Emb P ι h w) : TabW w := fun x hx => by
 obtain ⟨q, hq⟩ := e.tb x hx
 obtain ⟨_, ⟨⟨c, C, t, fr, h1, h2, h3, h4, h5⟩, _⟩, _⟩ := e.mks _ _ _ _ hq
 exact ⟨C, t, fr, h2, h5 x hx rfl⟩
theorem ZjX (P : Program) {w : World} (ht : TabW w) : Emb P (ιMk w) (fun _ => none) w := by
 refine ⟨fun k c t q hk => (by cases hk), fun k O hk => (by cases hk), fun k k' b1 b2 h1 => (by cases h1), fun k b1 hk => ?_, fun b base id q hq => ?_, fun x hx => ⟨_, ιMk_of (ht.dec x hx)⟩⟩
 ·obtain ⟨b, base, id, rfl, rfl, h⟩ := ιMk_inv hk
  cases h with
  | mk _ h2 _ _ => exact (Array.getElem?_eq_some_iff.1 h2).1
 ·obtain ⟨b', base', id', h1, rfl, h⟩ := ιMk_inv hq
  obtain ⟨rfl, rfl, rfl⟩ := Zgt h1
  cases h with
  | mk h1 h2 h3 h4 =>
   rename_i c C t fr
   refine ⟨rfl, ⟨⟨c, C, t, fr, h1, h2, h3, fun i x y hx hy => ?_, fun x hx hb => ?_⟩, fun o c' hc => ιMk_of ?_⟩, fun k d hk => (by cases hk)⟩
   ·unfold Zt at hx
    rw [List.getElem?_map] at hx
    cases hb : c[i]? with
    | none => rw [hb] at hx; cases hx
    | some z =>
     rw [hb] at hx
     injection hx with hx
     subst hx
     exact (h4 i z y hb hy).vr
   ·obtain ⟨C', t', fr', h6, h7⟩ := ht x hx
    rw [hb, h2] at h6
    injection h6 with h6
    injection h6 with h6
    rw [h6]; exact h7
   ·unfold Zar at hc
    rw [h1] at hc
    obtain ⟨e, hl⟩ := Zbi hc
    have hl' : c'.length ≤ c.length - o := by simpa using hl
    refine .mk (ZaR c') h2 (fun h0 => by have := h3 (by omega); omega) fun i x y hx hy => ?_
    have hi : i < c'.length := (List.getElem?_eq_some_iff.1 hx).1
    refine h4 (o + i) x y ?_ (by rw [← Nat.add_assoc]; exact hy)
    rw [e, List.getElem?_take_of_lt hi, List.getElem?_drop] at hx
    exact hx
theorem Zme {w : World} {n : Nat} (hn : n ≤ far) : Fresh (ιMk w) 0 n := ⟨hn, fun k _ hk => by
 cases hq : ιMk w k with
 | none => rfl
 | some q =>
  obtain ⟨b, base, id, rfl, _⟩ := ιMk_inv hq
  have := Zbq b base id
  unfold far at hn
  omega⟩

def ZeI (P : Program) (ι : Ren) (s : St) (w : World) (v : Value) (s' : St) (e : Ending) (w' : World) : Prop :=
  ∃ v' ι', e = .returned v' ∧ Step P ι s.h.get w ι' s'.h.get w' ∧ Dom ι ι' s.n s'.n ∧ VR ι' v v'
def Goes (P : Program) (f : FuncId) (args : Array Value) (w : World) (R : Ending → World → Prop) : Prop :=
  ((∃ (fn : Func) (c : Code), P.funcs[f]? = some fn ∧ fn.body = some c) ∧ Calls P f args w R) ∨ ∃ v w', (callFunc f args).run P w = .ok (.value v) w' ∧ R (.returned v) w'
structure Zgz (P : Program) (f : FuncId) (g : Array Value → St → Out) : Prop where
  up : ∀ args s v s', g args s = some (v, s') → Up s s'
  does : ∀ args s v s', g args s = some (v, s') → (∀ p ∈ s'.ob, p.1 = p.2) → ∀ ι w args', VRs ι args args' → Emb P ι s.h.get w → Fresh ι s.n s'.n → Goes P f args' w (ZeI P ι s w v s')
def Zce (v : Value) : List PanicEntry := [{ v := v, recovered := false }]
def ZbE (P : Program) (f : FuncId) (args : Array Value) (pre : List (Nat × AObj)) (v : Value) (post : List (Nat × Option AObj)) (n dn : Nat) : Prop :=
  ∀ ι w args', VRs ι args args' → Emb P ι (fun k => Z0 k pre) w → Fresh ι n (n + dn) → Calls P f args' w fun e w' => (∃ v' ι', e = .returned v' ∧ Step P ι (fun k => Z0 k pre) w ι' (behind pre post) w' ∧ Dom ι ι' n (n + dn) ∧ VR ι' v v') ∨ (Za3 v = true ∧ ∃ ι', e = .panicked (Zce v) ∧ Step P ι (fun k => Z0 k pre) w ι' (behind pre post) w' ∧ Dom ι ι' n (n + dn))
structure Fit (P : Program) (ext : FuncId → Option Ext) : Prop where
  mixed : P.follows .mixedOrders = true
  go : ∀ (f : Nat) (fn : Func), P.funcs[f]? = some fn → (fn.name == "runtime.NumGoroutine") = false
  fn : ∀ (f : Nat) (g : List Value → Option Value), ext f = some (.fn g) → (∃ (fn : Func) (c : Code), P.funcs[f]? = some fn ∧ fn.body = some c) ∧ ∀ (args : Array Value) (v : Value), Zr ZaA args.toList = true → g args.toList = some v → ∀ w, TabW w → Calls P f args w fun e w' => e = .returned v ∧ Below w.heap.size w w'
  hp : ∀ (f : Nat) (g : Array Value → St → Out), ext f = some (.hp g) → Zgz P f g
  tc : ∀ (f : Nat) (S : Array Value → List (Nat × AObj) → Value → List (Nat × Option AObj) → Nat → Nat → Prop), ext f = some (.tc S) → (∃ (fn : Func) (c : Code), P.funcs[f]? = some fn ∧ fn.body = some c) ∧ ∀ args pre v post n dn, S args pre v post n dn → ZbE P f args pre v post n dn
  mark : ∀ (f : Nat) (n : Nat), ext f = some (.mark n) → ∃ fn : Func, P.funcs[f]? = some fn ∧ fn.body.isNone = true ∧ Extern.findNext fn = none ∧
    (n = 0 ∧ (∃ m : Mark, Extern.find fn = some (fun _ => do mark m; pure Extern.Race.none_)) ∨ n = 1 ∧ ∃ m : Addr → Mark, Extern.find fn = some (Extern.Race.marked m))
  ext : ∀ (f : Nat) (kk : IntKind) (e : Nat), ext f = some (.at kk e) → ∃ fn : Func, P.funcs[f]? = some fn ∧ fn.body.isNone = true ∧ Extern.findNext fn = none ∧
    (e = 0 ∧ Extern.find fn = some (Extern.Atomic.loadT (.int kk)) ∨ e = 1 ∧ Extern.find fn = some Extern.Atomic.storeT ∨
     e = 2 ∧ Extern.find fn = some (Extern.Atomic.update (Op.intArith .add) kk true) ∨ e = 3 ∧ Extern.find fn = some (Extern.Atomic.casT (.int kk)))
section
variable {P : Program} {ext : FuncId → Option Ext}

theorem up_fn {g : List Value → Option Value} {args : Array Value} {s s' : St} {v : Value} (h : Zkq g args s = some (v, s')) : Up s s' := by
  unfold Zkq at h
  replace h := (Zh h).2
  split at h
  · replace h := (Zh h).2
    injection h with h; injection h with h1 h2; subst h1 h2; exact Up.refl _
  · cases h
theorem ZeJ {α : Type} {b : Bool} {x : Option α} {y : α} (h : (bif b then none else x) = some y) : b = false ∧ x = some y := by
  cases b with
  | true => simp at h
  | false => exact ⟨rfl, by simpa using h⟩
theorem Zaa {ops : Array Oper} {T : Tr Value} {o : Oper} {s s' : St} {b : Bool} (h : Zbw ops T o s = some (b, s')) : Up s s' := by
  unfold Zbw at h
  split at h
  · injection h with h; injection h with h1 h2; subst h1 h2; exact Up.refl _
  · split at h
    · split at h
      · injection h with h; injection h with h1 h2; subst h1 h2; exact Up.refl _
      · injection h with h; injection h with h1 h2; subst h1 h2; exact Up.refl _
      · cases h
    · cases h
theorem ZdV {h : Tr AObj} (k : Nat) : ∀ (t : List Nat), (ZdS h t).get k = if k ∈ t then h.get k else none
  | [] => by simp [ZdS, Tr.get_nil]
  | j :: t => by
    rw [ZdS, Tr.get_set]
    by_cases hk : k = j
    · subst hk; rw [Zl]; simp
    · rw [Zg hk, ZdV k t]
      simp [hk]
theorem ZaU {r h : Tr AObj} (k : Nat) : ∀ (t : List Nat), (ZbB r t h).get k = if k ∈ t then r.get k else h.get k
  | [] => by simp [ZbB]
  | j :: t => by
    rw [ZbB, Tr.get_set]
    by_cases hk : k = j
    · subst hk; rw [Zl]; simp
    · rw [Zg hk, ZaU k t]
      simp [hk]
section
variable {P : Program}
/-! ### What is elsewhere stays -/
noncomputable def join (h x : AH) : AH := fun k => match h k with | some o => some o | none => x k
theorem ZaV {h x : AH} {k : Nat} (hk : (h k).isSome) : join h x k = h k := by
  unfold join
  cases he : h k with
  | none => rw [he] at hk; cases hk
  | some o => rfl
theorem Zao {h x : AH} {k : Nat} (hk : h k = none) : join h x k = x k := by unfold join; rw [hk]
theorem Emb.sub {ι : Ren} {h g : AH} {w : World} (e : Emb P ι g w) (hs : ∀ k o, h k = some o → g k = some o) : Emb P ι h w := by
  have iso : ∀ k b, ZB (h k) b = true → ZB (g k) b = true := fun k b hk => by
    cases he : h k with
    | none => rw [he] at hk; cases hk
    | some o => rw [hs k o he, ← he]; exact hk
  have isoC : ∀ k b, Z6 (h k) b = true → Z6 (g k) b = true := fun k b hk => by
    cases he : h k with
    | none => rw [he] at hk; cases hk
    | some o => rw [hs k o he, ← he]; exact hk
  exact ⟨fun k c t q hk => e.obj k c t q (hs k _ hk), fun k O hk => e.ro k O (hs k _ hk), fun k k' b b' h1 h2 => e.inj k k' b b' (isoC k _ h1) (iso k' _ h2), e.lt, fun b base id q hq => ⟨(e.mks b base id q hq).1, (e.mks b base id q hq).2.1, fun k d hk hd => (e.mks b base id q hq).2.2 k d (isoC k _ hk) hd⟩, e.tb⟩
theorem Step.framed {ι ι' : Ren} {h h' x : AH} {w w' : World} (st : Step P ι h w ι' h' w') (e : Emb P ι (join h x) w) (hx : ∀ k, (x k).isSome → h k = none) :
    Step P ι (join h x) w ι' (join h' x) w' := by
  have hl : ∀ k b, ZB (h k) b = true → ZB (join h x k) b = true := fun k b hk => by rw [ZaV (Zau hk)]; exact hk
  have hlC : ∀ k b, Z6 (h k) b = true → Z6 (join h x k) b = true := fun k b hk => by rw [ZaV (Zac hk)]; exact hk
  have xlC : ∀ k b, Z6 (x k) b = true → Z6 (join h x k) b = true := fun k b hk => by rw [Zao (hx k (Zac hk))]; exact hk
  have xl : ∀ k b, ZB (x k) b = true → ZB (join h x k) b = true := fun k b hk => by rw [Zao (hx k (Zau hk))]; exact hk
  have xi : ∀ k, (x k).isSome → (join h x k).isSome := fun k hk => by rw [Zao (hx k hk)]; exact hk
  have partsS : ∀ k b, ZB (join h' x k) b = true → ZB (h' k) b = true ∨ (h' k = none ∧ ZB (x k) b = true) := fun k b hk => by
    cases he : h' k with
    | some o => rw [ZaV (by rw [he]; rfl), he] at hk; exact .inl hk
    | none => rw [Zao he] at hk; exact .inr ⟨rfl, hk⟩
  have parts : ∀ k, (join h' x k).isSome → (h' k).isSome ∨ (h' k = none ∧ (x k).isSome) := fun k hk => by
    cases he : h' k with
    | some o => exact .inl rfl
    | none => rw [Zao he] at hk; exact .inr ⟨rfl, hk⟩
  have partsC : ∀ k b, Z6 (join h' x k) b = true → Z6 (h' k) b = true ∨ (h' k = none ∧ Z6 (x k) b = true) := fun k b hk => by
    cases he : h' k with
    | some o => rw [ZaV (by rw [he]; rfl), he] at hk; exact .inl hk
    | none => rw [Zao he] at hk; exact .inr ⟨rfl, hk⟩
  have xι : ∀ k, (x k).isSome → ∃ b, ι k = some b ∧ ι' k = some b := fun k hk => by
    obtain ⟨b, hb⟩ := e.live (xi k hk)
    exact ⟨b, hb, st.ext k b hb⟩
  refine ⟨st.ext, ⟨fun k c t q hk => ?_, fun k O hk => ?_, fun k k' b b' h1 h2 h3 h4 h5 => ?_, st.emb.lt, ?_, st.emb.tb⟩, st.os, st.tape, st.output, st.size, fun b hb hno => st.frame b hb fun k c hk => hno k c (hlC k c hk), fun k b h1 h2 h0 => ?_, fun k b h1 h2 => ?_, fun k b h1 h2 => ?_⟩
  · rcases parts k (by rw [hk]; rfl) with h1 | ⟨h1, h2⟩
    · rw [ZaV h1] at hk
      exact st.emb.obj k c t q hk
    · rw [Zao h1] at hk
      obtain ⟨b, hb, hz | ⟨q0, C, hB, hC, hQ⟩⟩ := e.obj k c t q (by rw [Zao (hx k h2)]; exact hk)
      · exact ⟨b, st.ext k b hb, .inl hz⟩
      refine ⟨b, st.ext k b hb, .inr ⟨q0, C, ?_, hC.ext st.ext, hQ⟩⟩
      rw [st.frame b.1 (e.lt k b hb)]
      · exact hB
      · intro j d hj hd he
        have : j = k := e.inj j k d b (hlC j d hj) (xl k b (by rw [hk]; exact Zat q0)) hd hb he
        subst this
        rw [hx j h2] at hj
        cases hj
  · rcases parts k (by rw [hk]; rfl) with h1 | ⟨h1, h2⟩
    · rw [ZaV h1] at hk
      exact st.emb.ro k O hk
    · rw [Zao h1] at hk
      obtain ⟨b, hb, hB⟩ := e.ro k O (by rw [Zao (hx k h2)]; exact hk)
      refine ⟨b, st.ext k b hb, ?_⟩
      rw [st.frame b.1 (e.lt k b hb)]
      · exact hB
      · intro j d hj hd he
        have : j = k := e.inj j k d b (hlC j d hj) (xl k b (by rw [hk]; rfl)) hd hb he
        subst this
        rw [hx j h2] at hj
        cases hj
  · -- one of h', one of x
    have mixed : ∀ {k k' : Nat} {b b' : Nat × Nat}, ZB (h' k) b = true → ZB (x k') b' = true → (Z6 (h' k) b = true ∨ Z6 (x k') b' = true) → ι' k = some b → ι' k' = some b' → b.1 = b'.1 → k = k' := fun {k k' b b'} h1 h2 hor h3 h4 h5 => by
      obtain ⟨c, hc, hc'⟩ := xι k' (Zau h2)
      rw [h4] at hc'; injection hc' with hc'; subst hc'
      cases hk : ι k with
      | some d =>
        have e1 := st.ext k d hk
        rw [h3] at e1; injection e1 with e1; subst e1
        rcases hor with hC | hC
        · exact e.inj k k' b b' (hlC k b (st.kind k b hC hk)) (xl k' b' h2) hk hc h5
        · exact (e.inj k' k b' b (xlC k' b' hC) (hl k b (st.alive k b h1 hk)) hc hk h5.symm).symm
      | none =>
        rcases st.new k b hk h3 (.inl h1) with h6 | ⟨j, d, hj, hd, he⟩
        · have := e.lt k' b' hc
          omega
        · have : j = k' := e.inj j k' d b' (hlC j d hj) (xl k' b' h2) hd hc (he.trans h5)
          subst this
          rw [hx j (Zau h2)] at hj
          cases hj
    rcases partsC k b h1 with q1 | ⟨_, q1⟩ <;> rcases partsS k' b' h2 with q2 | ⟨_, q2⟩
    · exact st.emb.inj k k' b b' q1 q2 h3 h4 h5
    · exact mixed (Zat q1) q2 (.inl q1) h3 h4 h5
    · exact (mixed q2 (Zat q1) (.inr q1) h4 h3 h5.symm).symm
    · obtain ⟨c, hc, hc'⟩ := xι k (Zac q1)
      obtain ⟨d, hd, hd'⟩ := xι k' (Zau q2)
      rw [h3] at hc'; injection hc' with hc'; subst hc'
      rw [h4] at hd'; injection hd' with hd'; subst hd'
      exact e.inj k k' b b' (xlC k b q1) (xl k' b' q2) hc hd h5
  · intro b base id q hq
    obtain ⟨m1, m2, m3⟩ := st.emb.mks b base id q hq
    refine ⟨m1, m2, fun k d hk hd => ?_⟩
    rcases partsC k d hk with q1 | ⟨_, q1⟩
    · exact m3 k d q1 hd
    · obtain ⟨c, hc, hc'⟩ := xι k (Zac q1)
      rw [hd] at hc'; injection hc' with hc'; subst hc'
      cases hm : ι (Z7 b base id) with
      | some q' => exact (e.mks b base id q' hm).2.2 k d (xlC k d q1) hc
      | none =>
        rcases st.new _ q hm hq (.inr (Zbq b base id)) with h6 | ⟨j, c', hj, hc'', he⟩
        · have := e.lt k d hc
          omega
        · intro hdb
          have : j = k := e.inj j k c' d (hlC j c' hj) (xl k d (Zat q1)) hc'' hc (by omega)
          subst this
          rw [hx j (Zac q1)] at hj
          cases hj
  · have h0' : ZB (h' k) b = true ∨ ZP k := by
      rcases h0 with h0 | h0
      · rcases partsS k b h0 with q1 | ⟨_, q1⟩
        · exact .inl q1
        · obtain ⟨c, hc, _⟩ := xι k (Zau q1)
          rw [h1] at hc; cases hc
      · exact .inr h0
    rcases st.new k b h1 h2 h0' with h3 | ⟨j, c, hj, hc⟩
    · exact .inl h3
    · exact .inr ⟨j, c, hlC j c hj, hc⟩
  · rcases partsS k b h1 with q1 | ⟨_, q1⟩
    · exact hl k b (st.alive k b q1 (by
        rcases Option.isSome_iff_exists.1 (Zau q1) with ⟨o, ho⟩
        exact h2))
    · exact xl k b q1
  · rcases partsC k b h1 with q1 | ⟨_, q1⟩
    · exact hlC k b (st.kind k b q1 h2)
    · exact xlC k b q1

end
theorem ZfD (h : Tr AObj) : ∀ (l : List (Nat × Option AObj)) (k : Nat), (ZfX h l).get k = match Z0 k l with | some o => o | none => h.get k
  | [], k => rfl
  | x :: l, k => by
    show ((ZfX h l).set x.1 x.2).get k = _
    rw [Tr.get_set]
    unfold Z0
    by_cases hk : k = x.1
    · subst hk
      rw [Zl, Nat.beq_refl]
      rfl
    · rw [Zg hk, ZfD h l k, Zc5 (fun e => hk e.symm)]
      rfl
theorem ZcI {α : Type} {k : Nat} {o : α} : ∀ {l : List (Nat × α)}, Z0 k l = some o → (k, o) ∈ l
  | [], h => by cases h
  | x :: l, h => by
    unfold Z0 at h
    cases hb : Nat.beq x.1 k with
    | true =>
      rw [hb] at h
      injection h with h
      have := Nat.eq_of_beq_eq_true hb
      obtain ⟨a, b⟩ := x
      subst this h
      exact List.mem_cons_self
    | false =>
      rw [hb] at h
      exact List.mem_cons_of_mem _ (ZcI h)
theorem Zgm {pre : List (Nat × AObj)} {n n' : Nat} : ∀ {post : List (Nat × Option AObj)}, ZgJ pre n n' post = true → ∀ k o, Z0 k post = some o → (Z0 k pre).isSome ∨ (o.isSome ∧ n ≤ k ∧ k < n')
  | [], _, k, o, h => by cases h
  | x :: l, hk, k, o, h => by
    simp only [ZgJ, Bool.and_eq_true, Bool.or_eq_true] at hk
    unfold Z0 at h
    cases hb : Nat.beq x.1 k with
    | true =>
      rw [hb] at h
      injection h with h
      have := Nat.eq_of_beq_eq_true hb
      subst this h
      rcases hk.1 with h1 | ⟨h0, h1, h2⟩
      · exact .inl h1
      · exact .inr ⟨h0, Nat.le_of_ble_eq_true h1, Nat.le_of_ble_eq_true h2⟩
    | false => rw [hb] at h; exact Zgm hk.2 k o h
theorem Ze2 {s : St} : ∀ (l : List (Nat × AObj)), s.ob <:+ ZfY s l
  | [] => List.suffix_refl _
  | x :: l => (Ze2 l).trans (List.suffix_cons _ _)
theorem Zgn {s : St} : ∀ {l : List (Nat × AObj)} {x : Nat × AObj}, x ∈ l → (AObj.sameAs (s.h.get x.1) x.2, true) ∈ ZfY s l
  | y :: l, x, h => by
    rcases List.mem_cons.1 h with rfl | h
    · exact List.mem_cons_self
    · exact List.mem_cons_of_mem _ (Zgn h)
theorem ZjF {o : Option AObj} {p : AObj} (h : AObj.sameAs o p = true) : o = some p := by
  unfold AObj.sameAs at h
  split at h
  · rename_i c t c' t'
    cases hb : Nat.beq t t' with
    | true =>
      rw [hb] at h
      rw [Nat.eq_of_beq_eq_true hb, Z1.1 h]
    | false => rw [hb] at h; cases h
  · rename_i c t c' t'
    cases hb : Nat.beq t t' with
    | true =>
      rw [hb] at h
      rw [Nat.eq_of_beq_eq_true hb, Z1.1 h]
    | false => rw [hb] at h; cases h
  · rw [Z1.1 h]
  · rw [Z1.1 h]
  · cases h
theorem ZiO {S : Array Value → List (Nat × AObj) → Value → List (Nat × Option AObj) → Nat → Nat → Prop} {args : Array Value} {pre : List (Nat × AObj)} {u v : Value} {post : List (Nat × Option AObj)} {dn : Nat} {s s' : St} (h : ZeC S args pre u post dn s = some (v, s')) : Up s s' := by
  unfold ZeC at h
  replace h := (Zh h).2
  injection h with h
  injection h with h1 h2
  subst h1 h2
  refine ⟨Nat.le_add_right _ _, (Ze2 pre).trans (List.suffix_cons _ _), _, rfl, fun k hk _ => ?_⟩
  show (ZfX s.h post).get k = _
  rw [ZfD]
  cases hl : Z0 k post with
  | none => rfl
  | some o => exact absurd (List.mem_map.2 ⟨_, ZcI hl, rfl⟩) hk
theorem ZiP {S : Array Value → List (Nat × AObj) → Value → List (Nat × Option AObj) → Nat → Nat → Prop} {args : Array Value} {pre : List (Nat × AObj)} {u v : Value} {post : List (Nat × Option AObj)} {dn : Nat} {s s' : St} (h : Zi0 S args pre u post dn s = some (v, s')) : Za3 u = false ∧ ZeC S args pre u post dn s = some (v, s') := by
  unfold Zi0 at h
  split at h
  · cases h
  · exact ⟨by assumption, h⟩
theorem ZmB {S : Array Value → List (Nat × AObj) → Value → List (Nat × Option AObj) → Nat → Nat → Prop} {args : Array Value} {pre : List (Nat × AObj)} {u v : Value} {post : List (Nat × Option AObj)} {dn : Nat} {s s' : St} (h : Zi0 S args pre u post dn s = some (v, s')) : Up s s' := ZiO (ZiP h).2
theorem Zgo {P : Program} {f : FuncId} {S : Array Value → List (Nat × AObj) → Value → List (Nat × Option AObj) → Nat → Nat → Prop} (hS : ∀ args pre v post n dn, S args pre v post n dn → ZbE P f args pre v post n dn) {args args' : Array Value} {pre : List (Nat × AObj)} {u v : Value} {post : List (Nat × Option AObj)} {dn : Nat} {s s' : St} (h : ZeC S args pre u post dn s = some (v, s')) (ho : ∀ p ∈ s'.ob, p.1 = p.2)
    {ι : Ren} {w : World} (ha : VRs ι args args') (he : Emb P ι s.h.get w) (hf : Fresh ι s.n s'.n) : v = u ∧ Calls P f args' w fun e w' => ZeI P ι s w v s' e w' ∨ (Za3 v = true ∧ ∃ ι', e = .panicked (Zce v) ∧ Step P ι s.h.get w ι' s'.h.get w' ∧ Dom ι ι' s.n s'.n) := by
  unfold ZeC at h
  obtain ⟨hg, h⟩ := Zh h
  simp only [Bool.and_eq_true] at hg
  injection h with h
  injection h with h1 h2
  subst h1 h2
  have hc := hS _ _ _ _ _ _ (Z1.1 (ho _ List.mem_cons_self))
  have hpre : ∀ k o, Z0 k pre = some o → s.h.get k = some o := fun k o hk => ZjF (ho (AObj.sameAs (s.h.get k) o, true) (List.mem_cons_of_mem _ (Zgn (x := (k, o)) (ZcI hk))))
  let x : AH := fun k => if (Z0 k pre).isSome then none else s.h.get k
  have hx : ∀ k, (x k).isSome → (fun k => Z0 k pre) k = none := fun k hk => by
    show Z0 k pre = none
    cases hl : Z0 k pre with
    | none => rfl
    | some o => simp [x, hl] at hk
  have e1 : join (fun k => Z0 k pre) x = s.h.get := funext fun k => by
    cases hl : Z0 k pre with
    | none => rw [Zao hl]; simp [x, hl]
    | some o => rw [ZaV (h := fun k => Z0 k pre) (by simp [hl])]; simp only [hl]; exact (hpre k o hl).symm
  have e2 : join (behind pre post) x = (ZfX s.h post).get := funext fun k => by
    rw [ZfD]
    cases hl : Z0 k post with
    | some o =>
      cases o with
      | some o =>
        have hb : behind pre post k = some o := by unfold behind; rw [hl]
        rw [ZaV (by rw [hb]; rfl), hb]
      | none =>
        have hb : behind pre post k = none := by unfold behind; rw [hl]
        rw [Zao hb]
        rcases Zgm hg.1 k none hl with h1 | ⟨h1, _⟩
        · simp [x, h1]
        · cases h1
    | none =>
      have hb : behind pre post k = Z0 k pre := by unfold behind; rw [hl]
      cases hp : Z0 k pre with
      | none => rw [Zao (by rw [hb, hp])]; simp [x, hp]
      | some o => rw [ZaV (by rw [hb, hp]; rfl), hb, hp]; exact (hpre k o hp).symm
  refine ⟨rfl, (hc ι w args' ha (he.sub fun k o hk => hpre k o hk) hf).mono ?_⟩
  rintro e w' (⟨v', ι', rfl, g1, g2, g3⟩ | ⟨ht, ι', rfl, g1, g2⟩)
  · have := g1.framed (x := x) (by rw [e1]; exact he) hx
    rw [e1, e2] at this
    exact .inl ⟨v', ι', rfl, this, g2, g3⟩
  · have := g1.framed (x := x) (by rw [e1]; exact he) hx
    rw [e1, e2] at this
    exact .inr ⟨ht, ι', rfl, this, g2⟩
theorem Zk9 {P : Program} {f : FuncId} {S : Array Value → List (Nat × AObj) → Value → List (Nat × Option AObj) → Nat → Nat → Prop} (hS : ∀ args pre v post n dn, S args pre v post n dn → ZbE P f args pre v post n dn) {args args' : Array Value} {pre : List (Nat × AObj)} {u v : Value} {post : List (Nat × Option AObj)} {dn : Nat} {s s' : St} (h : Zi0 S args pre u post dn s = some (v, s')) (ho : ∀ p ∈ s'.ob, p.1 = p.2)
    {ι : Ren} {w : World} (ha : VRs ι args args') (he : Emb P ι s.h.get w) (hf : Fresh ι s.n s'.n) : Calls P f args' w (ZeI P ι s w v s') := by
  obtain ⟨h1, h2⟩ := ZiP h
  obtain ⟨rfl, h3⟩ := Zgo hS h2 ho ha he hf
  refine h3.mono ?_
  rintro e w' (h4 | ⟨h4, _⟩)
  · exact h4
  · rw [h1] at h4; cases h4
theorem Zal (hup : ∀ (f : Nat) (g : Array Value → St → Out), ext f = some (.hp g) → ∀ args s v s', g args s = some (v, s') → Up s s') : ∀ fu : Nat, (∀ nt c T s e T' s', Z8 P ext nt fu c T s = some (e, T', s') → Up s s') ∧ (∀ nt ops l T s T' s', Zc4 P ext nt fu ops l T s = some (T', s') → Up s s') ∧
    (∀ ρ o s v s', Zci P ext fu ρ o s = some (v, s') → Up s s') ∧ (∀ f args s v s', Zba P ext fu f args s = some (v, s') → Up s s') ∧ (∀ nt ops done l T s es T' s', Zbg P ext nt fu ops done l T s = some (es, T', s') → Up s s') ∧ (∀ xs ρ o s v s' r, Zdn P ext fu xs ρ o s = some (v, s', r) → Up s s') := by
  intro fu
  induction fu with
  | zero => exact ⟨fun _ _ _ _ _ _ _ h => by simp [Z8] at h, fun _ _ _ _ _ _ _ h => by simp [Zc4, St.keep_eq] at h, fun _ _ _ _ _ h => by simp [Zci] at h, fun _ _ _ _ _ h => by simp [Zba] at h, fun _ _ _ _ _ _ _ _ _ h => by simp [Zbg, St.keep_eq] at h, fun _ _ _ _ _ _ _ h => by simp [Zdn] at h⟩
  | succ fu ih =>
    obtain ⟨ihC, ihO, ihP, ihF, ihD, ihE⟩ := ih
    refine ⟨fun nt c T s e T' s' h => ?_, fun nt ops l T s T' s' h => ?_, fun ρ o s v s' h => ?_, fun f args s v s' h => ?_, fun nt ops done l T s es T' s' h => ?_, fun xs ρ o s v s' r h => ?_⟩
    · cases c <;> simp only [Z8] at h
      case skip => injection h with h; simp only [Prod.mk.injEq] at h; obtain ⟨_, _, rfl⟩ := h; exact Up.refl _
      case label l => injection h with h; simp only [Prod.mk.injEq] at h; obtain ⟨_, _, rfl⟩ := h; exact Up.refl _
      case scope c => exact ihC _ _ _ _ _ _ _ h
      case ret => injection h with h; simp only [Prod.mk.injEq] at h; obtain ⟨_, _, rfl⟩ := h; exact Up.refl _
      case exit id => injection h with h; simp only [Prod.mk.injEq] at h; obtain ⟨_, _, rfl⟩ := h; exact Up.refl _
      case seq a b =>
        split at h
        · exact (ihC _ _ _ _ _ _ _ (by assumption)).trans (ihC _ _ _ _ _ _ _ h)
        · injection h with h; simp only [Prod.mk.injEq] at h; obtain ⟨_, _, rfl⟩ := h; exact ihC _ _ _ _ _ _ _ (by assumption)
        · injection h with h; simp only [Prod.mk.injEq] at h; obtain ⟨_, _, rfl⟩ := h; exact ihC _ _ _ _ _ _ _ (by assumption)
        · cases h
      case cond x a b =>
        split at h
        · split at h
          · exact ihC _ _ _ _ _ _ _ h
          · exact ihC _ _ _ _ _ _ _ h
        · cases h
      case block id a =>
        split at h
        · rename_i i T1 s1 h1
          cases hb : Nat.beq i id <;> rw [hb] at h <;> (injection h with h; simp only [Prod.mk.injEq] at h; obtain ⟨_, _, rfl⟩ := h; exact ihC _ _ _ _ _ _ _ (by assumption))
        · injection h with h; simp only [Prod.mk.injEq] at h; obtain ⟨_, _, rfl⟩ := h; exact ihC _ _ _ _ _ _ _ (by assumption)
        · injection h with h; simp only [Prod.mk.injEq] at h; obtain ⟨_, _, rfl⟩ := h; exact ihC _ _ _ _ _ _ _ (by assumption)
        · cases h
      case loop a =>
        split at h
        · exact (ihC _ _ _ _ _ _ _ (by assumption)).trans (ihC _ _ _ _ _ _ _ h)
        · injection h with h; simp only [Prod.mk.injEq] at h; obtain ⟨_, _, rfl⟩ := h; exact ihC _ _ _ _ _ _ _ (by assumption)
        · injection h with h; simp only [Prod.mk.injEq] at h; obtain ⟨_, _, rfl⟩ := h; exact ihC _ _ _ _ _ _ _ (by assumption)
        · cases h
      case region id ops draw =>
        cases draw with
        | true =>
          simp only [cond_true] at h
          split at h
          · injection h with h; simp only [Prod.mk.injEq] at h; obtain ⟨_, _, rfl⟩ := h; exact ihD _ _ _ _ _ _ _ _ _ (by assumption)
          · cases h
        | false =>
          simp only [cond_false] at h
          split at h
          · injection h with h; simp only [Prod.mk.injEq] at h; obtain ⟨_, _, rfl⟩ := h; exact ihO _ _ _ _ _ _ _ (by assumption)
          · cases h
      all_goals cases h
    · cases l with
      | nil => simp only [Zc4, St.keep_eq] at h; injection h with h; simp only [Prod.mk.injEq] at h; obtain ⟨_, rfl⟩ := h; exact Up.refl _
      | cons o l =>
        simp only [Zc4, St.keep_eq] at h
        replace h := (Zh h).2
        split at h
        · split at h
          · exact (Zaa (by assumption)).trans ((ihP _ _ _ _ _ (by assumption)).trans (ihO _ _ _ _ _ _ _ h))
          · cases h
        · exact (Zaa (by assumption)).trans (ihO _ _ _ _ _ _ _ h)
        · cases h
    · simp only [Zci] at h
      split at h
      · split at h
        · split at h
          · split at h
            · exact (Zz (by assumption)).trans (Zk4 h)
            · cases h
            · exact (Zz (by assumption)).trans (Zls h)
          · exact Zm9 h
          · exact hup _ _ (by assumption) _ _ _ _ h
          · split at h
            · exact (Zz (by assumption)).trans (ZmB h)
            · cases h
          · exact up_fn h
          · exact ihF _ _ _ _ _ h
        · cases h
      · split at h
        · rename_i v1 s1 h1
          injection h with h
          exact (ZmZ h1).trans (ZjW h)
        · cases h
    · simp only [Zba] at h
      split at h
      · split at h
        · replace h := (Zh h).2
          split at h
          · cases h
          · split at h
            · injection h with h; simp only [Prod.mk.injEq] at h; obtain ⟨_, rfl⟩ := h; exact ihC _ _ _ _ _ _ _ (by assumption)
            · injection h with h; simp only [Prod.mk.injEq] at h; obtain ⟨_, rfl⟩ := h; exact ihC _ _ _ _ _ _ _ (by assumption)
            · cases h
          · cases h
        · cases h
      · cases h
    · cases l with
      | nil => simp only [Zbg, St.keep_eq] at h; injection h with h; simp only [Prod.mk.injEq] at h; obtain ⟨_, _, rfl⟩ := h; exact Up.refl _
      | cons o l =>
        simp only [Zbg, St.keep_eq] at h
        replace h := (Zh h).2
        split at h
        · split at h
          · replace h := (Zh h).2
            exact (Zaa (by assumption)).trans ((ihE _ _ _ _ _ _ _ (by assumption)).trans (ihD _ _ _ _ _ _ _ _ _ h))
          · cases h
        · replace h := (Zh h).2
          exact (Zaa (by assumption)).trans (ihD _ _ _ _ _ _ _ _ _ h)
        · cases h
    · simp only [Zdn] at h
      split at h
      · split at h
        · rename_i v1 s1 h1
          obtain ⟨hg, h⟩ := Zh h
          injection h with h; simp only [Prod.mk.injEq] at h; obtain ⟨_, rfl, _⟩ := h
          have u := ihP _ _ _ _ _ h1
          obtain ⟨l, e1, e2⟩ := u.log
          simp only [List.append_nil] at e1
          refine ⟨u.n, u.ob, l, by rw [e1], fun k hk hn => ?_⟩
          show (ZbB _ _ _).get k = _
          rw [ZaU]
          split
          · rfl
          · rename_i hm
            rw [e2 k hk hn]
            show (ZbB _ _ _).get k = _
            rw [ZaU, if_neg hm]
        · cases h
      · replace h := (Zh h).2
        generalize (Zcv s ρ o).1 = w at h
        generalize (Zcv s ρ o).2 = t at h
        generalize Zex ρ o = q at h
        split at h
        · rename_i v1 s1 h1
          obtain ⟨hg, h⟩ := Zh h
          injection h with h; simp only [Prod.mk.injEq] at h; obtain ⟨_, rfl, _⟩ := h
          have u := ihP _ _ _ _ _ h1
          obtain ⟨l, e1, e2⟩ := u.log
          simp only [List.append_nil] at e1
          refine ⟨u.n, u.ob, l, by rw [e1], fun k hk hn => ?_⟩
          show (Tr.set _ _ _).get k = _
          rw [Tr.get_set]
          by_cases hkn : k = s.n
          · subst hkn
            rw [Zl]
            have hn' : ¬ s.n < s1.n := fun e => hn ⟨Nat.le_refl _, e⟩
            have : s1.n = s.n := by have := u.n; simp only at this; omega
            rw [ZcE this]
            rfl
          · rw [Zg hkn]
            cases w with
            | false => rfl
            | true =>
              simp only [cond_true]
              rw [ZaU]
              split
              · rename_i hm
                rw [e2 k hk hn, ZdV, if_pos (List.mem_append_left _ hm)]
              · rfl
        · cases h
end
section
variable {P : Program} {ext : FuncId → Option Ext}

def Ex.out : Ex → Exit
 | .normal => .normal
 | .exit id => .exit id
 | .ret => .ret
def TR (ι : Ren) (nt : Nat) (D : List Deferred) (T : Tr Value) (a : Act) : Prop := a.tmps.size = nt ∧ a.defers = D ∧ ∀ t, VR ι ((T.get t).getD undef) (a.tmps.getD t undef)
theorem TR.on {ι ι' : Ren} {nt : Nat} {D : List Deferred} {T : Tr Value} {a : Act} (h : TR ι nt D T a) (hi : ∀ k b, ι k = some b → ι' k = some b) : TR ι' nt D T a := ⟨h.1, h.2.1, fun t => (h.2.2 t).ext hi⟩
theorem VR.undef' {ι : Ren} : VR ι undef undef := VR.of_free rfl
theorem TR.put {ι : Ren} {nt : Nat} {D : List Deferred} {T : Tr Value} {a : Act} (h : TR ι nt D T a) {dst : Option Tmp} (hd : ZbA nt dst = true) {v v' : Value} (hv : VR ι v v') : TR ι nt D (ZaM T dst v) (a.put dst v') := by
 cases dst with
 | none => exact h
 | some d =>
  have hlt : d < a.tmps.size := by
   rw [h.1]
   simpa [ZbA, Nat.blt_eq] using hd
  refine ⟨by simp [Act.put, h.1], h.2.1, fun t => ?_⟩
  simp only [ZaM, Tr.get_set, Act.put]
  by_cases ht : t = d
  ·subst ht
   rw [Zl]
   simp [Array.getD, hlt]
   exact hv
  ·rw [Zg ht]
   have : (a.tmps.setIfInBounds d v').getD t undef = a.tmps.getD t undef := by
    simp [Array.getD_eq_getD_getElem?, Array.getElem?_setIfInBounds_ne (fun e => ht e.symm)]
   rw [this]
   exact h.2.2 t
def Zaf (a : Act) : Operand → Value
 | .const v => bif ZaA v then v else undef
 | x => a.eval x
theorem TR.opnd {ι : Ren} {nt : Nat} {D : List Deferred} {T : Tr Value} {a : Act} (h : TR ι nt D T a) (x : Operand) : VR ι (Ev.opnd T x) (Zaf a x) := by
 cases x with
 | tmp t => exact h.2.2 t
 | const v =>
  simp only [Ev.opnd, Zaf]
  cases hf : ZaA v
  ·exact VR.undef'
  ·exact VR.of_free hf
 | global g => exact .glob rfl
 | func f => exact .atom rfl
theorem Zb5 {a : Act} {o : Oper} (hs : ∀ cs b, o.op ≠ .select cs b) (hg : Zr ZaY o.op.operands.toList = true) : execOp (Zaf a) o = execOp a.eval o :=
 execOp_congr o hs fun x hx => by
  have := Z2 hg x (by simpa using hx)
  cases x with
  | const v =>
   simp only [ZaY] at this
   simp [Zaf, this, Act.eval]
  | _ => rfl
theorem ZbF {a : Act} {x : Operand} {t : Bool} (h : Zaf a x = .bool t) : a.eval x = .bool t := by
 cases x with
 | const v =>
  simp only [Zaf] at h
  cases hf : ZaA v <;> rw [hf] at h
  ·simp [undef] at h
  ·exact h
 | _ => exact h
theorem ZaG {ι : Ren} {T : Tr Value} {a : Act} {ops : Array Oper} {o : Oper} {s s' : St} {b : Bool} (h : ∀ t ∈ o.looksAt ops, VR ι ((T.get t).getD undef) (a.tmps.getD t undef)) (hw : Zbw ops T o s = some (b, s')) :
  Region.wanted o (yielded ops a.tmps) = b ∧ s'.h = s.h ∧ s'.n = s.n := by
 unfold Zbw at hw
 unfold Region.wanted
 split at hw
 ·rename_i hg
  injection hw with hw; injection hw with h1 h2; subst h1 h2
  rw [hg]
  exact ⟨rfl, rfl, rfl⟩
 ·rename_i j want hg
  rw [hg]
  simp only
  split at hw
  ·rename_i d hd
   have hv := h d (by unfold Oper.looksAt; rw [hg]; simp [hd])
   split at hw
   ·rename_i q hq
    rw [hq] at hv
    have hv' := hv.bool_inv
    have hget : a.tmps[d]? = some (.bool q) := by
     simp only [Array.getD_eq_getD_getElem?] at hv'
     cases hx : a.tmps[d]? with
     | none => rw [hx] at hv'; simp [undef] at hv'
     | some u => rw [hx] at hv'; simpa using hv'
    have hy : yielded ops a.tmps j = some q := by
     unfold yielded
     rw [hd]
     simp [hget]
    rw [hy]
    injection hw with hw; injection hw with h1 h2; subst h1 h2
    exact ⟨by cases q <;> cases want <;> rfl, rfl, rfl⟩
   ·rename_i u hq
    injection hw with hw; injection hw with h1 h2; subst h1 h2
    rw [hq] at hv
    refine ⟨?_, rfl, rfl⟩
    have hy : yielded ops a.tmps j = none := by
     unfold yielded
     rw [hd]
     simp only [Option.bind_some]
     split
     ·rename_i c hc
      exfalso
      simp only [Array.getD_eq_getD_getElem?, hc, Option.getD_some] at hv
      cases hv
     ·rfl
    rw [hy]
    rfl
   ·cases hw
  ·cases hw
def Ze3 (tmps : Array Value) : ResultVar → Sem Value
 | .tmp t => pure (tmps.getD t undef)
 | .cell b t => do loadVar t (← asAddr (tmps.getD b undef))
theorem Zdj {ι : Ren} {nt : Nat} {D : List Deferred} {T : Tr Value} {a : Act} {s : St} {w : World} (h : TR ι nt D T a) (he : Emb P ι s.h.get w) : ∀ (rs : List ResultVar) (l : List Value), Zad P T s rs = some l →
  ∃ l' : List Value, (rs.mapM (Ze3 a.tmps)).run P w = .ok l' w ∧ l.length = l'.length ∧ ∀ (i : Nat) x y, l[i]? = some x → l'[i]? = some y → VR ι x y
 | [], l, hr => by
  simp only [Zad, Option.some.injEq] at hr
  subst hr
  exact ⟨[], by simp [Sem.run], rfl, fun i x y hx => by simp at hx⟩
 | .tmp t :: rs, l, hr => by
  simp only [Zad] at hr
  split at hr
  ·rename_i r hr'
   injection hr with hr
   subst hr
   obtain ⟨l', h1, h2, h3⟩ := Zdj h he rs r hr'
   refine ⟨a.tmps.getD t undef :: l', ?_, by simp [h2], fun i x y hx hy => ?_⟩
   ·have e0 : (Ze3 a.tmps (.tmp t)).run P w = .ok (a.tmps.getD t undef) w := rfl
    simp only [List.mapM_cons, Sem.run_bind, e0, Result.andThen, h1]
    rfl
   ·cases i with
    | zero => simp at hx hy; subst hx hy; simpa using h.2.2 t
    | succ i => exact h3 i x y (by simpa using hx) (by simpa using hy)
  ·cases hr
 | .cell b t :: rs, l, hr => by
  simp only [Zad] at hr
  split at hr
  ·rename_i k o hb
   split at hr
   ·rename_i u r hu hr'
    injection hr with hr
    subst hr
    obtain ⟨l', h1, h2, h3⟩ := Zdj h he rs r hr'
    obtain ⟨bk, v', hbk, hrun, hv⟩ := Zfo he hu
    have hp := h.2.2 b
    rw [hb] at hp
    obtain ⟨bk', hbk', hp'⟩ := hp.ptr_inv
    rw [hbk] at hbk'; injection hbk' with hbk'; subst hbk'
    refine ⟨v' :: l', ?_, by simp [h2], fun i x y hx hy => ?_⟩
    ·have e0 : (Ze3 a.tmps (.cell b t)).run P w = .ok v' w := by
      simp [Ze3, hp', asAddr, hrun, -Array.getD_eq_getD_getElem?]
     simp only [List.mapM_cons, Sem.run_bind, e0, Result.andThen, h1]
     rfl
    ·cases i with
     | zero => simp at hx hy; subst hx hy; exact hv
     | succ i => exact h3 i x y (by simpa using hx) (by simpa using hy)
   ·cases hr
  ·cases hr
theorem ZaD {ι : Ren} {nt : Nat} {D : List Deferred} {T : Tr Value} {a : Act} {s : St} {w : World} {fn : Func} {v : Value} (h : TR ι nt D T a) (he : Emb P ι s.h.get w)
  (hr : (match Zad P T s fn.results.toList with | some [v] => some v | some vs => some (.tuple vs.toArray) | none => none) = some v) : ∃ v', (results fn a.tmps).run P w = .ok v' w ∧ VR ι v v' := by
 have hR : results fn a.tmps = (do let vs ← fn.results.mapM (Ze3 a.tmps); pure (if h : vs.size = 1 then vs[0] else .tuple vs)) := rfl
 cases hx : Zad P T s fn.results.toList with
 | none => rw [hx] at hr; cases hr
 | some l =>
  rw [hx] at hr
  obtain ⟨l', h1, h2, h3⟩ := Zdj h he fn.results.toList l hx
  have hA : (fn.results.mapM (Ze3 a.tmps)).run P w = .ok l'.toArray w := by
   rw [Array.mapM_eq_mapM_toList]
   simp [h1]
  rw [hR]
  rcases l with _ | ⟨x, _ | ⟨y, l⟩⟩
  ·injection hr with hr
   subst hr
   have : l' = [] := List.eq_nil_of_length_eq_zero (by simpa using h2.symm)
   subst this
   exact ⟨.tuple #[], by simp [hA], .tuple rfl fun i x y hx => by simp at hx⟩
  ·injection hr with hr
   subst hr
   rcases l' with _ | ⟨x', _ | ⟨y', l'⟩⟩
   ·simp at h2
   ·exact ⟨x', by simp [hA], h3 0 x x' rfl rfl⟩
   ·simp at h2
  ·injection hr with hr
   subst hr
   have hne : ¬ l'.length = 1 := by simp at h2; omega
   exact ⟨.tuple l'.toArray, by simp [hA, hne], .tuple (by simpa using h2) fun i x y hx hy => h3 i x y (by simpa using hx) (by simpa using hy)⟩
end
section
variable {P : Program} {ext : FuncId → Option Ext}

theorem Zan {f : FuncId} {fn : Func} {c : Code} (hf : P.funcs[f]? = some fn) (hn : (fn.name == "runtime.NumGoroutine") = false) (hb : fn.body = some c) (args : Array Value) (w : World) :
  (callFunc f args).run P w = .ok (.enter f args) w := by
 have h1 : fn.name ≠ "runtime.NumGoroutine" := by simpa using hn
 simp [callFunc, hf, h1, hb]
theorem ZmC {ι : Ren} {s : St} {w : World} (he : Emb P ι s.h.get w) {k o : Nat} {kk : IntKind} {v : Int} (h : rowAt s k o 1 = some [.int kk v]) : ∃ b C t, ι k = some b ∧ Cel w.heap[b.1]? C t ∧ w.cell? ⟨b.1, o, none⟩ = some (.int kk v) ∧ w.frozen? ⟨b.1, o, none⟩ = false := by
 obtain ⟨b, C, t, hb, hB, hl, hx⟩ := ZeD he h
 obtain ⟨y, hy, hv⟩ := hx 0 _ rfl
 obtain ⟨fr, hB', hu⟩ := hB.unf
 refine ⟨b, C, t, hb, hB, ?_, ZkW hB' hu (Array.getElem?_eq_some_iff.1 hy).1⟩
 rw [Zi2 hB]
 simpa [hv.int_inv] using hy
theorem Zhu {w : World} {b o : Nat} {C : Array Value} {t : TypeId} {x : Value} {fr : Nat × Nat} (hB : w.heap[b]? = some (.cells C t fr)) (ho : o < C.size) : w.setRow b (C.toList.take o ++ [x] ++ C.toList.drop (o + 1)).toArray = w.setCell ⟨b, o, none⟩ x := by
 have e : (C.toList.take o ++ [x] ++ C.toList.drop (o + 1)).toArray = C.setIfInBounds o x := by
  apply Array.ext'
  simp only [Array.toList_setIfInBounds]
  rw [List.set_eq_take_append_cons_drop, if_pos (by simpa using ho)]
  simp
 rw [e]
 unfold World.setRow World.setCell
 congr 1
 apply Array.ext
 ·simp
 ·intro i h1 h2
  simp only [Array.getElem_modify]
  split
  ·rename_i hi
   subst hi
   have hlt : b < w.heap.size := (Array.getElem?_eq_some_iff.1 hB).1
   have : w.heap[b] = .cells C t fr := by
    have := Array.getElem?_eq_getElem hlt
    rw [hB] at this
    exact (Option.some.inj this).symm
   simp [this]
  ·rfl
theorem ZfE {ι : Ren} {s s' : St} {w : World} (he : Emb P ι s.h.get w) {k o : Nat} {x : Int} {kk : IntKind} (h : Za0 s k o [.int kk x] = some s') {b : Nat × Nat} (hb : ι k = some b) :
  Step P ι s.h.get w ι s'.h.get (w.setCell ⟨b.1, o, none⟩ (.int kk x)) ∧ s'.n = s.n := by
 obtain ⟨b2, w', hb2, _, hstep, hn, ⟨C, t, hB, hfit, hw⟩, _⟩ := Zdi he (c := #[.int kk x]) h rfl (fun i a b h1 h2 => by
  rcases i with _ | i
  ·simp at h1 h2; subst h1 h2; exact .atom rfl
  ·simp at h1)
 rw [hb] at hb2; injection hb2 with hb2; subst hb2
 have ho : o < C.size := by simp at hfit; omega
 have : w' = w.setCell ⟨b.1, o, none⟩ (.int kk x) := by
  rw [hw]
  obtain ⟨fr, hB', _⟩ := hB.unf
  exact Zhu hB' ho
 rw [← this]
 exact ⟨hstep, hn⟩
theorem ZkA (F : Fit P ext) {f n : Nat} (hx : ext f = some (.mark n)) {ι : Ren} {w : World} {s s' : St} {args args' : Array Value} {v : Value} (ha : VRs ι args args') (he : Emb P ι s.h.get w) (h : Zfz n args s = some (v, s')) :
  Res P ((callFunc f args').run P w) s ι w v s' := by
 obtain ⟨fn, hf, hb, hn, hk⟩ := F.mark f n hx
 have hname := F.go f fn hf
 unfold Zfz at h
 split at h
 ·rename_i hargs
  injection h with h; injection h with h1 h2; subst h1 h2
  have hA : args' = #[] := by
   have := ha.1
   rw [← Array.length_toList, hargs] at this
   exact Array.eq_empty_of_size_eq_zero this.symm
  rcases hk with ⟨_, m, hk⟩ | ⟨h, _⟩
  ·exact Res.same he (v' := .tuple #[]) (by rw [hA]; exact run_call_mark0 hf hname hb hn m hk w) (VR.of_free rfl)
  ·omega
 ·rename_i k o hargs
  injection h with h; injection h with h1 h2; subst h1 h2
  have hsz : args'.size = 1 := by rw [← ha.1, ← Array.length_toList, hargs]; rfl
  have h0 : args[0]? = some (.pointer (some ⟨k, o, none⟩)) := by
   have : args.toList[0]? = some (.pointer (some ⟨k, o, none⟩)) := by rw [hargs]; rfl
   simpa using this
  have hv := ha.2 0 _ args'[0] h0 (Array.getElem?_eq_getElem (by omega))
  obtain ⟨b, hb2, hp⟩ := hv.ptr_inv
  have hA : args' = #[.pointer (some ⟨b.1, o, none⟩)] := by
   apply Array.ext (by simpa using hsz)
   intro i h3 h4
   have : i = 0 := by omega
   subst this
   simpa using hp
  rcases hk with ⟨h, _⟩ | ⟨_, m, hk⟩
  ·omega
  ·exact Res.same he (v' := .tuple #[]) (by rw [hA]; exact run_call_marked hf hname hb hn m hk _ w) (VR.of_free rfl)
 ·cases h
theorem ZfF (F : Fit P ext) {f e : Nat} {kk : IntKind} (hx : ext f = some (.at kk e)) {ι : Ren} {w : World} {s s' : St} {args args' : Array Value} {v : Value} (ha : VRs ι args args') (he : Emb P ι s.h.get w) (ho : ∀ p ∈ s'.ob, p.1 = p.2) (h : ZaZ kk e args s = some (v, s')) :
  Res P ((callFunc f args').run P w) s ι w v s' := by
 obtain ⟨fn, hf, hb, hn, hk⟩ := F.ext f kk e hx
 have hname := F.go f fn hf
 clear hx
 have get : ∀ {i : Nat} {x : Value}, args.toList[i]? = some x → ∃ y, args'[i]? = some y ∧ VR ι x y := fun {i x} hi => by
  have hi' : args[i]? = some x := by simpa using hi
  have hlt : i < args'.size := by rw [← ha.1]; exact (Array.getElem?_eq_some_iff.1 hi').1
  exact ⟨args'[i], Array.getElem?_eq_getElem hlt, ha.2 i x _ hi' (Array.getElem?_eq_getElem hlt)⟩
 have arr : ∀ {l : List Value}, args'.size = l.length → (∀ (i : Nat) (y : Value), l[i]? = some y → args'[i]? = some y) → args' = l.toArray := fun {l} h1 h2 => by
  apply Array.ext (by simpa using h1)
  intro i h3 h4
  have := h2 i l[i] (List.getElem?_eq_getElem (by simpa using h4))
  rw [Array.getElem?_eq_getElem h3] at this
  simpa using Option.some.inj this
 unfold ZaZ at h
 split at h
 ·rename_i k o r hargs
  split at h
  ·rename_i ck vv hrow
   split at h
   ·rename_i hck
    subst hck
    obtain ⟨b, C, t, hbk, hB, hc, hz⟩ := ZmC he hrow
    obtain ⟨y0, hy0, hv0⟩ := get (i := 0) (by rw [hargs]; rfl)
    obtain ⟨b', hb', rfl⟩ := hv0.ptr_inv
    rw [hbk] at hb'; injection hb' with hb'; subst hb'
    have hsz : args'.size = r.length + 1 := by rw [← ha.1, ← Array.length_toList, hargs]; rfl
    split at h
    ·injection h with h; injection h with h1 h2; subst h1 h2
     have hA : args' = #[.pointer (some ⟨b.1, o, none⟩)] := arr (l := [_]) (by simpa using hsz) fun i y hi => by
      rcases i with _ | i
      ·simp at hi; subst hi; exact hy0
      ·simp at hi
     rcases hk with ⟨_, hk⟩ | ⟨h, _⟩ | ⟨h, _⟩ | ⟨h, _⟩ <;> try omega
     exact Res.same he (v' := .int ck vv) (by rw [hA]; exact run_call_load hf hname hb hn _ hk hc) (.atom rfl)
    ·rename_i xk x
     split at h
     ·rename_i hxk
      subst hxk
      split at h
      ·rename_i s1 hw
       injection h with h; injection h with h1 h2; subst h1 h2
       obtain ⟨y1, hy1, hv1⟩ := get (i := 1) (by rw [hargs]; rfl)
       have := hv1.int_inv
       subst this
       have hA : args' = #[.pointer (some ⟨b.1, o, none⟩), .int _ x] := arr (l := [_, _]) (by simpa using hsz) fun i y hi => by
        rcases i with _ | _ | i
        ·simp at hi; subst hi; exact hy0
        ·simp at hi; subst hi; exact hy1
        ·simp at hi
       rcases hk with ⟨h, _⟩ | ⟨_, hk⟩ | ⟨h, _⟩ | ⟨h, _⟩ <;> try omega
       obtain ⟨q1, q2⟩ := ZfE he hw hbk
       exact ⟨_, _, ι, .tuple #[], by rw [hA]; exact run_call_store hf hname hb hn hk hc hz, .inl rfl, q1, q2 ▸ Dom.refl, VR.of_free rfl⟩
      ·cases h
     ·cases h
    ·rename_i xk d
     split at h
     ·rename_i hxk
      subst hxk
      split at h
      ·rename_i s1 hw
       injection h with h; injection h with h1 h2; subst h1 h2
       obtain ⟨y1, hy1, hv1⟩ := get (i := 1) (by rw [hargs]; rfl)
       have := hv1.int_inv
       subst this
       have hA : args' = #[.pointer (some ⟨b.1, o, none⟩), .int _ d] := arr (l := [_, _]) (by simpa using hsz) fun i y hi => by
        rcases i with _ | _ | i
        ·simp at hi; subst hi; exact hy0
        ·simp at hi; subst hi; exact hy1
        ·simp at hi
       rcases hk with ⟨h, _⟩ | ⟨h, _⟩ | ⟨_, hk⟩ | ⟨h, _⟩ <;> try omega
       obtain ⟨q1, q2⟩ := ZfE he hw hbk
       exact ⟨_, _, ι, .int _ _, by rw [hA]; exact run_call_add hf hname hb hn _ hk hc hz (by simp [Op.intArith]), .inl rfl, q1, q2 ▸ Dom.refl, .atom rfl⟩
      ·cases h
     ·cases h
    ·rename_i xk x yk y
     split at h
     ·rename_i hxy
      obtain ⟨hxk, hyk⟩ := hxy
      subst hxk
      subst hyk
      obtain ⟨y1, hy1, hv1⟩ := get (i := 1) (by rw [hargs]; rfl)
      have := hv1.int_inv
      subst this
      obtain ⟨y2, hy2, hv2⟩ := get (i := 2) (by rw [hargs]; rfl)
      have := hv2.int_inv
      subst this
      have hA : args' = #[.pointer (some ⟨b.1, o, none⟩), .int _ x, .int _ y] := arr (l := [_, _, _]) (by simpa using hsz) fun i z hi => by
       rcases i with _ | _ | _ | i
       ·simp at hi; subst hi; exact hy0
       ·simp at hi; subst hi; exact hy1
       ·simp at hi; subst hi; exact hy2
       ·simp at hi
      rcases hk with ⟨h, _⟩ | ⟨h, _⟩ | ⟨h, _⟩ | ⟨_, hk⟩ <;> try omega
      split at h
      ·rename_i s1 hs
       split at h
       ·rename_i s2 hw
        injection h with h; injection h with h1 h2; subst h1 h2
        obtain ⟨e1, e2, e3⟩ := Zf2 hs (ZL (Zah hw).ob ho)
        have hvx : vv = x := by simpa using e1.symm
        subst hvx
        obtain ⟨q1, q2⟩ := ZfE (e2 ▸ he) hw hbk
        exact ⟨_, _, ι, .bool true, by rw [hA]; exact run_call_cas_hit hf hname hb hn _ hk hc hz, .inl rfl, e2 ▸ q1, (q2.trans e3) ▸ Dom.refl, .atom rfl⟩
       ·cases h
      ·rename_i s1 hs
       injection h with h; injection h with h1 h2; subst h1 h2
       obtain ⟨e1, e2, e3⟩ := Zf2 hs ho
       have hvx : vv ≠ x := by simpa using e1.symm
       exact Res.heap (s := s1) (Res.same (e2 ▸ he) (v' := .bool false) (by rw [hA]; exact run_call_cas_miss hf hname hb hn _ hk hc hz hvx) (.atom rfl)) e2.symm e3.symm
     ·cases h
    ·cases h
   ·cases h
  ·cases h
 ·cases h
theorem ZkB {kk : IntKind} {e : Nat} {args : Array Value} {z : Int} {c' : List Value} {s s' : St} {v : Value} (hob : ∀ p ∈ s'.ob, p.1 = p.2) (h : ZcQ kk e args z c' s = some (v, s')) (hw : s.orc.w = s.orc.w) :
  ∃ s0 s1, ZaZ kk e args s0 = some (v, s1) ∧ s0.h = s.h ∧ s0.n = s.n ∧ s'.h = s1.h ∧ s'.n = s1.n ∧ ∀ p ∈ s1.ob, p.1 = p.2 := by
 unfold ZcQ at h
 split at h
 ·rename_i k o r hargs
  split at h
  ·rename_i c t hk
   split at h
   ·injection h with h
    injection h with h1 h2
    subst h1 h2
    have q := Z1.1 (hob (_, true) List.mem_cons_self)
    refine ⟨s, s, ?_, rfl, rfl, rfl, rfl, fun p hp => hob p (List.mem_cons_of_mem _ hp)⟩
    unfold ZaZ
    rw [hargs]
    simp only [rowAt, hk, q, if_true]
   ·rename_i xk x
    split at h
    ·rename_i hxk
     subst hxk
     injection h with h
     injection h with h1 h2
     subst h1 h2
     obtain ⟨q, q1, q2⟩ := Z1.1 (hob (_, true) List.mem_cons_self)
     refine ⟨s, s.putK k c' t, ?_, rfl, rfl, rfl, rfl, fun p hp => hob p (List.mem_cons_of_mem _ hp)⟩
     unfold ZaZ
     rw [hargs]
     simp only [rowAt, hk, q, if_true, Za0, List.length_cons, List.length_nil, Nat.zero_add, Nat.ble_eq_true_of_le q1, Zr, ZaI, Bool.not_false, Bool.true_or, Bool.and_self, cond_true, q2]
    ·cases h
   ·rename_i xk d
    split at h
    ·rename_i hxk
     subst hxk
     injection h with h
     injection h with h1 h2
     subst h1 h2
     obtain ⟨q, q1, q2⟩ := Z1.1 (hob (_, true) List.mem_cons_self)
     refine ⟨s, s.putK k c' t, ?_, rfl, rfl, rfl, rfl, fun p hp => hob p (List.mem_cons_of_mem _ hp)⟩
     unfold ZaZ
     rw [hargs]
     simp only [rowAt, hk, q, if_true, Za0, List.length_cons, List.length_nil, Nat.zero_add, Nat.ble_eq_true_of_le q1, Zr, ZaI, Bool.not_false, Bool.true_or, Bool.and_self, cond_true, q2]
    ·cases h
   ·rename_i xk x yk y
    split at h
    ·rename_i hxy
     obtain ⟨hxk, hyk⟩ := hxy
     subst hxk
     subst hyk
     generalize hs0 : s.told (dP (Ze 1 (c.drop o) = some [.int _ z])) = s0 at h
     have e0 : s0.h = s.h := by rw [← hs0]; rfl
     have en : s0.n = s.n := by rw [← hs0]; rfl
     have em : (dP (Ze 1 (c.drop o) = some [.int yk z]), true) ∈ s0.ob := by rw [← hs0]; exact List.mem_cons_self
     split at h
     ·rename_i s1 hs
      injection h with h
      injection h with h1 h2
      subst h1 h2
      have ho1 : ∀ p ∈ s1.ob, p.1 = p.2 := fun p hp => hob p (List.mem_cons_of_mem _ hp)
      obtain ⟨q1, q2⟩ := Z1.1 (hob (_, true) List.mem_cons_self)
      obtain ⟨e1, e2, e3⟩ := Zf2 hs ho1
      have q := Z1.1 (ho1 (_, true) ((ZcY hs).ob.subset em))
      refine ⟨s0, s1.putK k c' t, ?_, e0, en, rfl, rfl, ho1⟩
      unfold ZaZ
      rw [hargs]
      have hk1 : s1.h.get k = some (.cells c t) := by rw [e2, e0]; exact hk
      simp only [rowAt, e0, hk, q, and_self, if_true, hs, Za0, hk1, List.length_cons, List.length_nil, Nat.zero_add, Nat.ble_eq_true_of_le q1, Zr, ZaI, Bool.not_false, Bool.true_or, Bool.and_self, cond_true, q2]
     ·rename_i s1 hs
      injection h with h
      injection h with h1 h2
      subst h1 h2
      have q := Z1.1 (hob (_, true) ((ZcY hs).ob.subset em))
      refine ⟨s0, s1, ?_, e0, en, rfl, rfl, hob⟩
      unfold ZaZ
      rw [hargs]
      simp only [rowAt, e0, hk, q, and_self, if_true, hs]
    ·cases h
   ·cases h
  ·cases h
 ·cases h
end
section
variable {P : Program} {ext : FuncId → Option Ext}

/-! ### What an operation turns -/
noncomputable def Dk (r : Rec) (k : Nat) : Bool := (r.w && ZdC k r.t) || (Nat.ble r.n0 k && Nat.blt k r.n1)
noncomputable def Kof (e : Ent) : AH := if e.r.small then (ZdS e.s.h (e.r.t ++ e.r.q)).get else (ZbB .nil e.r.q e.s.h).get
noncomputable def ZiQ (e : Ent) : AH := fun k => if Dk e.r k then e.s'.h.get k else Kof e k
theorem ZbX {k : Nat} : ∀ {l : List Nat}, ZdC k l = true ↔ k ∈ l
 | [] => by simp [ZdC]
 | x :: l => by
  simp only [ZdC, Bool.or_eq_true, List.mem_cons, ZbX (l := l)]
  constructor
  ·rintro (h | h)
   ·exact .inl (Nat.eq_of_beq_eq_true h)
   ·exact .inr h
  ·rintro (h | h)
   ·exact .inl (ZcE h)
   ·exact .inr h
theorem Zhv {α : Type} {p : α → Bool} : ∀ {l : List α}, (∀ x ∈ l, p x = true) → Zr p l = true
 | [], _ => rfl
 | x :: l, h => by simp [Zr, h x (by simp), Zhv (l := l) fun y hy => h y (by simp [hy])]
theorem ZaE {a b : List Nat} (h : Zc2 a b = true) {k : Nat} (ha : k ∈ a) (hb : k ∈ b) : False := by
 have := Z2 h k ha
 rw [ZbX.2 hb] at this
 cases this
theorem ZbL {n0 n1 : Nat} {l : List Nat} (h : Zey n0 n1 l = true) {k : Nat} (hk : k ∈ l) (h1 : n0 ≤ k) (h2 : k < n1) : False := by
 have := Z2 h k hk
 rw [Nat.ble_eq_true_of_le h1, show Nat.blt k n1 = true from Nat.ble_eq_true_of_le h2] at this
 cases this
theorem Zbz {r : Rec} {k : Nat} : Dk r k = true ↔ (r.w = true ∧ k ∈ r.t) ∨ (r.n0 ≤ k ∧ k < r.n1) := by
 unfold Dk
 simp only [Bool.or_eq_true, Bool.and_eq_true, ZbX]
 constructor
 ·rintro (h | ⟨h1, h2⟩)
  ·exact .inl h
  ·exact .inr ⟨Nat.le_of_ble_eq_true h1, Nat.le_of_ble_eq_true h2⟩
 ·rintro (h | ⟨h1, h2⟩)
  ·exact .inl h
  ·exact .inr ⟨Nat.ble_eq_true_of_le h1, Nat.ble_eq_true_of_le h2⟩
structure ZgW (r : Rec) : Prop where
 lt : ∀ k ∈ r.t, k < r.n0
 ltq : ∀ k ∈ r.q, k < r.n0
 le : r.n0 ≤ r.n1
 big : r.small = false → r.w = true
 qt : r.small = false → ∀ k ∈ r.t, k ∉ r.q
noncomputable def ZiR (a b : Rec) : Prop := (a.small = true → ∀ k ∈ a.t ++ a.q, Dk b k = false) ∧ (a.small = false → ∀ k, k < a.n0 → k ∉ a.q → Dk b k = false)
theorem ZjG {a b : Rec} (h : ZgK a b = true) (ha : ZgW a) (hb : ZgW b) (hab : a.n1 ≤ b.n0) : ZiR a b ∧ ZiR b a ∧ ∀ k, Dk a k = true → Dk b k = true → False := by
 have la := ha.le
 have lb := hb.le
 unfold ZgK at h
 have nd : ∀ {r : Rec} {k : Nat}, ¬ ((r.w = true ∧ k ∈ r.t) ∨ (r.n0 ≤ k ∧ k < r.n1)) → Dk r k = false := fun {r k} hn => by
  cases hd : Dk r k
  ·rfl
  ·exact absurd (Zbz.1 hd) hn
 split at h
 ·rename_i h1 h2
  simp only [Bool.and_eq_true, Bool.or_eq_true] at h
  obtain ⟨⟨hw, hn⟩, ⟨hq1, hq2⟩, hnq⟩ := h
  have conf : ∀ k, k ∈ a.t → k ∈ b.t → a.w = true ∨ b.w = true → False := fun k k1 k2 k3 => by
   rcases hw with hw | hw
   ·rcases k3 with k3 | k3 <;> rw [k3] at hw <;> simp at hw
   ·exact ZaE hw k1 k2
  refine ⟨⟨fun _ k hk => nd ?_, fun e => absurd (h1.symm.trans e) (by decide)⟩, ⟨fun _ k hk => nd ?_, fun e => absurd (h2.symm.trans e) (by decide)⟩, fun k k1 k2 => ?_⟩
  ·rcases List.mem_append.1 hk with hk | hk
   ·rintro (⟨q1, q2⟩ | ⟨q1, q2⟩)
    ·exact conf k hk q2 (.inr q1)
    ·have := ha.lt k hk; omega
   ·rintro (⟨q1, q2⟩ | ⟨q1, q2⟩)
    ·rcases hq1 with h | h
     ·rw [q1] at h; simp at h
     ·exact ZaE h hk q2
    ·have := ha.ltq k hk; omega
  ·rcases List.mem_append.1 hk with hk | hk
   ·rintro (⟨q1, q2⟩ | ⟨q1, q2⟩)
    ·exact conf k q2 hk (.inl q1)
    ·exact ZbL hn hk q1 q2
   ·rintro (⟨q1, q2⟩ | ⟨q1, q2⟩)
    ·rcases hq2 with h | h
     ·rw [q1] at h; simp at h
     ·exact ZaE h q2 hk
    ·exact ZbL hnq hk q1 q2
  ·rcases Zbz.1 k1 with ⟨q1, q2⟩ | ⟨q1, q2⟩ <;> rcases Zbz.1 k2 with ⟨r1, r2⟩ | ⟨r1, r2⟩
   ·exact conf k q2 r2 (.inl q1)
   ·have := ha.lt k q2; omega
   ·exact ZbL hn r2 q1 q2
   ·omega
 ·rename_i h1 h2
  simp only [Bool.and_eq_true, Bool.not_eq_true', Bool.or_eq_true] at h
  obtain ⟨⟨⟨hw, hn⟩, hap⟩, haq⟩ := h
  have na : ∀ k, Dk a k = true → (k ∈ b.q ∧ a.n0 ≤ k ∧ k < a.n1 ∧ k ∉ b.t) := fun k hd => by
   rcases Zbz.1 hd with ⟨q1, q2⟩ | ⟨q1, q2⟩
   ·rw [hw] at q1; cases q1
   ·rcases hn with hn | ⟨⟨h3, h4⟩, h5⟩
    ·have := Nat.eq_of_beq_eq_true hn; omega
    ·have h4 := Nat.le_of_ble_eq_true h4
     obtain rfl : k = a.n0 := by omega
     exact ⟨ZbX.1 h3, q1, q2, fun hb => ZbL h5 hb q1 q2⟩
  have nb : ∀ k, k ∉ b.q → Dk a k = false := fun k hk => by
   cases hd : Dk a k
   ·rfl
   ·exact absurd (na k hd).1 hk
  refine ⟨⟨fun _ k hk => nd ?_, fun e => absurd (h1.symm.trans e) (by decide)⟩, ⟨fun e => absurd (h2.symm.trans e) (by decide), fun _ k _ hk => nb k hk⟩, fun k k1 k2 => ?_⟩
  rotate_left
  ·obtain ⟨_, q1, q2, q3⟩ := na k k1
   rcases Zbz.1 k2 with ⟨_, r2⟩ | ⟨r1, r2⟩
   ·exact q3 r2
   ·omega
  rcases List.mem_append.1 hk with hk | hk
  ·rintro (⟨q1, q2⟩ | ⟨q1, q2⟩)
   ·exact ZaE hap hk q2
   ·have := ha.lt k hk; omega
  ·rintro (⟨q1, q2⟩ | ⟨q1, q2⟩)
   ·exact ZaE haq hk q2
   ·have := ha.ltq k hk; omega
 ·rename_i h1 h2
  simp only [Bool.and_eq_true, Bool.not_eq_true'] at h
  obtain ⟨⟨⟨hw, hap⟩, hn⟩, haq, hnq⟩ := h
  refine ⟨⟨fun e => absurd (h1.symm.trans e) (by decide), fun _ k hk _ => nd ?_⟩, ⟨fun _ k hk => nd ?_, fun e => absurd (h2.symm.trans e) (by decide)⟩, fun k k1 k2 => ?_⟩
  ·rintro (⟨q1, q2⟩ | ⟨q1, q2⟩)
   ·rw [hw] at q1; cases q1
   ·omega
  ·rcases List.mem_append.1 hk with hk | hk
   ·rintro (⟨q1, q2⟩ | ⟨q1, q2⟩)
    ·exact ZaE hap q2 hk
    ·exact ZbL hn hk q1 q2
   ·rintro (⟨q1, q2⟩ | ⟨q1, q2⟩)
    ·exact ZaE haq q2 hk
    ·exact ZbL hnq hk q1 q2
  ·rcases Zbz.1 k2 with ⟨r1, r2⟩ | ⟨r1, r2⟩
   ·rw [hw] at r1; cases r1
   ·rcases Zbz.1 k1 with ⟨q1, q2⟩ | ⟨q1, q2⟩
    ·have := ha.lt k q2; omega
    ·omega
 ·cases h
end
section
variable {P : Program} {ext : FuncId → Option Ext}

structure EntOk (P : Program) (ext : FuncId → Option Ext) (nt fu : Nat) (ops : Array Oper) (before : List Ent) (T T' : Tr Value) (s s' : St) (e : Ent) : Prop where
 eT : e.T = T
 eT' : T' = ZaM T e.o.dst e.v
 es' : s' = e.s'
 dst : ZbA nt e.o.dst = true
 good : Zr ZaY e.o.op.operands.toList = true
 edges : Zez before.length e.o.after.toList = true
 em : e.m = ZaC before e.o.after.toList
 pairs : Zdu ops e.o e.r e.m 0 before = true
 run : ∃ b, Zbw ops T e.o s = some (b, e.s) ∧ (b = true → ∃ fu', fu' < fu ∧ ∃ xs, Zdn P ext fu' xs (opnd (ZfZ T (Zc3 e.o.op.operands.toList))) e.o e.s = some (e.v, e.s', e.r)) ∧ (b = false → e.v = undef ∧ e.s' = e.s ∧ e.r = Zdh e.s)
theorem EntOk.fuel {nt fu fu1 : Nat} {ops : Array Oper} {before : List Ent} {T T' : Tr Value} {s s' : St} {e : Ent} (h : EntOk P ext nt fu ops before T T' s s' e) (hf : fu ≤ fu1) : EntOk P ext nt fu1 ops before T T' s s' e :=
 ⟨h.eT, h.eT', h.es', h.dst, h.good, h.edges, h.em, h.pairs, by
  obtain ⟨b, h1, h2, h3⟩ := h.run
  exact ⟨b, h1, fun hb => (by obtain ⟨fu', h4, h5⟩ := h2 hb; exact ⟨fu', Nat.lt_of_lt_of_le h4 hf, h5⟩), h3⟩⟩
theorem ZgX (nt : Nat) (ops : Array Oper) : ∀ (fu : Nat) (l : List Oper) (done : List Ent) (T : Tr Value) (s : St) (es : List Ent) (T' : Tr Value) (s' : St), Zbg P ext nt fu ops done l T s = some (es, T', s') →
  ∃ (es2 : List Ent) (σ : Nat → St) (τ : Nat → Tr Value), es = done ++ es2 ∧ es2.map (·.o) = l ∧ σ 0 = s ∧ τ 0 = T ∧ σ l.length = s' ∧ τ l.length = T' ∧
   ∀ (i : Nat) (e : Ent), es2[i]? = some e → EntOk P ext nt fu ops (done ++ es2.take i) (τ i) (τ (i + 1)) (σ i) (σ (i + 1)) e
 | 0, _, _, _, _, _, _, _, h => by simp [Zbg, St.keep_eq] at h
 | fu + 1, [], done, T, s, es, T', s', h => by
  simp only [Zbg, St.keep_eq] at h
  injection h with h
  simp only [Prod.mk.injEq] at h
  obtain ⟨rfl, rfl, rfl⟩ := h
  exact ⟨[], fun _ => s, fun _ => T, by simp, rfl, rfl, rfl, rfl, rfl, fun i e hi => by simp at hi⟩
 | fu + 1, o :: l, done, T, s, es, T', s', h => by
  simp only [Zbg, St.keep_eq] at h
  obtain ⟨hg, h⟩ := Zh h
  simp only [Bool.and_eq_true] at hg
  have go : ∀ (e1 : Ent), EntOk P ext nt (fu + 1) ops done T (ZaM T e1.o.dst e1.v) s e1.s' e1 → e1.o = o → Zbg P ext nt fu ops (done ++ [e1]) l (ZaM T e1.o.dst e1.v) e1.s' = some (es, T', s') →
    ∃ (es2 : List Ent) (σ : Nat → St) (τ : Nat → Tr Value), es = done ++ es2 ∧ es2.map (·.o) = o :: l ∧ σ 0 = s ∧ τ 0 = T ∧ σ (o :: l).length = s' ∧ τ (o :: l).length = T' ∧
     ∀ (i : Nat) (e : Ent), es2[i]? = some e → EntOk P ext nt (fu + 1) ops (done ++ es2.take i) (τ i) (τ (i + 1)) (σ i) (σ (i + 1)) e := fun e1 hok ho hrec => by
   obtain ⟨es2, σ, τ, h1, h2, h3, h4, h5, h6, h7⟩ := ZgX nt ops fu l _ _ _ es T' s' hrec
   refine ⟨e1 :: es2, fun i => match i with | 0 => s | i + 1 => σ i, fun i => match i with | 0 => T | i + 1 => τ i, by rw [h1]; simp, by simp [h2, ho], rfl, rfl, by simpa using h5, by simpa using h6, fun i e hi => ?_⟩
   cases i with
   | zero =>
    simp at hi
    subst hi
    simp only [List.take_zero, List.append_nil, h3, h4]
    exact hok
   | succ i =>
    have := (h7 i e (by simpa using hi)).fuel (Nat.le_succ fu)
    simpa using this
  split at h
  ·rename_i s1 hw
   split at h
   ·rename_i v s2 r hv
    obtain ⟨hp, h⟩ := Zh h
    exact go ⟨o, ZaC done o.after.toList, r, T, s1, v, s2⟩ ⟨rfl, rfl, rfl, hg.1.1, hg.1.2, hg.2, rfl, hp, true, hw, fun _ => ⟨fu, Nat.lt_succ_self _, _, hv⟩, (fun e => by cases e)⟩ rfl h
   ·cases h
  ·rename_i s1 hw
   obtain ⟨hp, h⟩ := Zh h
   exact go ⟨o, ZaC done o.after.toList, Zdh s1, T, s1, undef, s1⟩ ⟨rfl, rfl, rfl, hg.1.1, hg.1.2, hg.2, rfl, hp, false, hw, (fun e => by cases e), fun _ => ⟨rfl, rfl, rfl⟩⟩ rfl h
  ·cases h

/-! ### Which operations stand ahead -/
theorem ZfG {i : Nat} : ∀ {l : List Edge}, Zez i l = true → ∀ e ∈ l, Region.binds .any e = true → e.on < i
 | [], _, e, he => by cases he
 | d :: l, h, e, he => by
  simp only [Zez, Bool.and_eq_true, Bool.or_eq_true, Bool.not_eq_true'] at h
  rcases List.mem_cons.1 he with rfl | he
  ·intro hb
   rcases h.1 with h1 | h1
   ·rw [hb] at h1; cases h1
   ·exact Nat.le_of_ble_eq_true h1
  ·exact ZfG h.2 e he
theorem Zef {before : List Ent} {j : Nat} : ∀ {l : List Edge}, (ZaC before l).testBit j = true → ∃ e ∈ l, Region.binds .any e = true ∧ (e.on = j ∨ ∃ d, before[e.on]? = some d ∧ d.m.testBit j = true)
 | [], h => by simp [ZaC] at h
 | d :: l, h => by
  simp only [ZaC] at h
  cases hb : Region.binds .any d with
  | false =>
   rw [hb] at h
   obtain ⟨e, h1, h2⟩ := Zef (l := l) (by simpa using h)
   exact ⟨e, List.mem_cons_of_mem _ h1, h2⟩
  | true =>
   rw [hb] at h
   simp only [cond_true, Nat.testBit_or, Bool.or_eq_true] at h
   rcases h with (h | h) | h
   ·rw [Nat.testBit_two_pow] at h
    exact ⟨d, by simp, hb, .inl (by simpa using h)⟩
   ·refine ⟨d, by simp, hb, .inr ?_⟩
    split at h
    ·exact ⟨_, by assumption, h⟩
    ·simp at h
   ·obtain ⟨e, h1, h2⟩ := Zef (l := l) h
    exact ⟨e, List.mem_cons_of_mem _ h1, h2⟩
theorem ZfH {ops : Array Oper} {o : Oper} {r : Rec} {m : Nat} : ∀ {l : List Ent} {j : Nat}, Zdu ops o r m j l = true → ∀ (i : Nat) (d : Ent), l[i]? = some d → m.testBit (j + i) = true ∨ (Oper.apart ops d.o o = true ∧ ZgK d.r r = true)
 | [], j, _, i, d, hd => by simp at hd
 | x :: l, j, h, i, d, hd => by
  simp only [Zdu, Bool.and_eq_true, Bool.or_eq_true] at h
  cases i with
  | zero =>
   simp at hd
   subst hd
   rcases h.1 with h1 | h1
   ·exact .inl (by simpa using h1)
   ·exact .inr h1
  | succ i =>
   have := ZfH h.2 i d (by simpa using hd)
   rwa [show j + 1 + i = j + (i + 1) by omega] at this
def Zhw (es : List Ent) (L : Nat → Bool) : Prop := ∀ (i : Nat) (e : Ent), es[i]? = some e → L i = true → ∀ d ∈ e.o.after.toList, Region.binds .any d = true → L d.on = true
theorem Zgp {es : List Ent} {L : Nat → Bool} (hc : Zhw es L) (hm : ∀ (i : Nat) (e : Ent), es[i]? = some e → e.m = ZaC (es.take i) e.o.after.toList) {j : Nat} :
  ∀ (i : Nat) (e : Ent), es[i]? = some e → (∀ d ∈ e.o.after.toList, Region.binds .any d = true → L d.on = true) → e.m.testBit j = true → L j = true := by
 intro i
 induction i using Nat.strongRecOn with
 | _ i ih =>
  intro e he hr hb
  rw [hm i e he] at hb
  obtain ⟨d, hd, hbd, h1 | ⟨x, hx, hxb⟩⟩ := Zef hb
  ·rw [← h1]; exact hr d hd hbd
  ·have hlt : d.on < i := by
    have := (List.getElem?_eq_some_iff.1 hx).1
    rw [List.length_take] at this
    omega
   rw [List.getElem?_take_of_lt hlt] at hx
   exact ih d.on hlt x hx (hc d.on x hx (hr d hd hbd)) hxb
end
section
variable {β : Type}
noncomputable def ovf (L D : Nat → Bool) (V : Nat → β) (x0 : β) : Nat → β
  | 0 => x0
  | p + 1 => if L p && D p then V p else ovf L D V x0 p
noncomputable def ZaN (L : Nat → Bool) (i : Nat) : Nat → Bool := fun j => if j = i then true else L j
theorem ZdW {L D : Nat → Bool} {V S : Nat → β} (i n : Nat) (hi : i ≤ n) (hS : ∀ p, p < n → S (p + 1) = if D p then V p else S p) (h1 : ∀ p, p < i → L p = false → D p = false) (h2 : ∀ p, i ≤ p → p < n → L p = true → D p = false) :
    ovf L D V (S 0) n = S i := by
  have A : ∀ p, p ≤ i → ovf L D V (S 0) p = S p := by
    intro p
    induction p with
    | zero => intro _; rfl
    | succ p ih =>
      intro hp
      rw [ovf, ih (by omega), hS p (by omega)]
      cases hL : L p with
      | true => simp
      | false => rw [h1 p (by omega) hL]; simp
  have B : ∀ p, i ≤ p → p ≤ n → ovf L D V (S 0) p = S i := by
    intro p
    induction p with
    | zero => intro h _; obtain rfl : i = 0 := by omega
              rfl
    | succ p ih =>
      intro h hp
      by_cases he : i = p + 1
      · rw [he]; exact A (p + 1) (by omega)
      · rw [ovf, ih (by omega) (by omega)]
        cases hL : L p with
        | true => rw [h2 p (by omega) (by omega) hL]; simp
        | false => simp
  exact B n hi (Nat.le_refl _)
theorem ZjY {L D : Nat → Bool} {V : Nat → β} {x0 : β} (i n : Nat) (hi : i < n) (hL : L i = false) (h : ∀ p, i < p → p < n → L p = true → D p = true → D i = false) :
    ovf (ZaN L i) D V x0 n = if D i then V i else ovf L D V x0 n := by
  have A : ∀ p, p ≤ i → ovf (ZaN L i) D V x0 p = ovf L D V x0 p := by
    intro p
    induction p with
    | zero => intro _; rfl
    | succ p ih =>
      intro hp
      rw [ovf, ovf, ih (by omega)]
      have : ZaN L i p = L p := by unfold ZaN; rw [if_neg (by omega)]
      rw [this]
  have B : ∀ p, i < p → p ≤ n → ovf (ZaN L i) D V x0 p = if D i then V i else ovf L D V x0 p := by
    intro p
    induction p with
    | zero => intro h _; omega
    | succ p ih =>
      intro hp hn
      by_cases he : p = i
      · subst he
        rw [ovf, ovf, A p (Nat.le_refl _), hL]
        have : ZaN L p p = true := by simp [ZaN]
        rw [this]
        simp
      · rw [ovf, ovf, ih (by omega) (by omega)]
        have : ZaN L i p = L p := by unfold ZaN; rw [if_neg he]
        rw [this]
        cases hLp : L p with
        | false => simp
        | true =>
          cases hD : D p with
          | false => simp
          | true => rw [h p (by omega) (by omega) hLp hD]; simp
  exact B n hi (Nat.le_refl _)
end
section
variable {P : Program} {ext : FuncId → Option Ext}

noncomputable def Zeg (es : List Ent) (k p : Nat) : Bool := match es[p]? with | some e => Dk e.r k | none => false
noncomputable def ZiS (es : List Ent) (k p : Nat) : Option AObj := match es[p]? with | some e => e.s'.h.get k | none => none
noncomputable def HL (es : List Ent) (L : Nat → Bool) (s : St) : AH := fun k => ovf L (Zeg es k) (ZiS es k) (s.h.get k) es.length
noncomputable def ZfI (es : List Ent) (t p : Nat) : Bool := match es[p]? with | some e => e.o.dst == some t | none => false
noncomputable def ZiT (es : List Ent) (p : Nat) : Option Value := match es[p]? with | some e => some e.v | none => none
noncomputable def TL (es : List Ent) (L : Nat → Bool) (T : Tr Value) : Nat → Option Value := fun t => ovf L (ZfI es t) (ZiT es) (T.get t) es.length
structure Ctx (P : Program) (ext : FuncId → Option Ext) (nt fu : Nat) (ops : Array Oper) (es : List Ent) (σ : Nat → St) (τ : Nat → Tr Value) : Prop where
  len : es.length = ops.size
  op : ∀ (i : Nat) (e : Ent), es[i]? = some e → ops[i]? = some e.o
  ok : ∀ (i : Nat) (e : Ent), es[i]? = some e → EntOk P ext nt fu ops (es.take i) (τ i) (τ (i + 1)) (σ i) (σ (i + 1)) e
  rok : ∀ (i : Nat) (e : Ent), es[i]? = some e → ZgW e.r ∧ e.r.n0 = (σ i).n ∧ e.r.n1 = (σ (i + 1)).n ∧ (∀ k, Dk e.r k = false → (σ (i + 1)).h.get k = (σ i).h.get k) ∧ e.s.h = (σ i).h
  old : ∀ k, ((σ 0).h.get k).isSome → ¬ ((σ 0).n ≤ k ∧ k < (σ es.length).n)
  sem : ∀ (i : Nat) (e : Ent), es[i]? = some e → ∀ (ι : Ren) (w : World) (a : Act) (K : Act → World → Prop) (Q : Exit → Act → World → Prop), (∀ t ∈ e.o.looksAt ops, VR ι (((τ i).get t).getD undef) (a.tmps.getD t undef)) → Emb P ι (Kof e) w → Fresh ι (σ i).n (σ (i + 1)).n →
    (∀ v' w' ι', Step P ι (Kof e) w ι' (ZiQ e) w' → Dom ι ι' (σ i).n (σ (i + 1)).n → VR ι' e.v v' → K (a.put e.o.dst v') w') → wpOp P ops Q i K a w
variable {nt fu : Nat} {ops : Array Oper} {es : List Ent} {σ : Nat → St} {τ : Nat → Tr Value}
theorem Ctx.get (C : Ctx P ext nt fu ops es σ τ) {i : Nat} (hi : i < es.length) : ∃ e, es[i]? = some e := ⟨_, List.getElem?_eq_getElem hi⟩
theorem Ctx.mono (C : Ctx P ext nt fu ops es σ τ) : ∀ {i j : Nat}, i ≤ j → j ≤ es.length → (σ i).n ≤ (σ j).n := by
  intro i j
  induction j with
  | zero => intro h _; obtain rfl : i = 0 := by omega
            exact Nat.le_refl _
  | succ j ih =>
    intro h hj
    by_cases he : i = j + 1
    · subst he; exact Nat.le_refl _
    · obtain ⟨e, hee⟩ := C.get (i := j) (by omega)
      obtain ⟨r1, r2, r3, _⟩ := C.rok j e hee
      have := r1.le
      exact Nat.le_trans (ih (by omega) (by omega)) (by omega)
theorem Ctx.chainH (C : Ctx P ext nt fu ops es σ τ) (k p : Nat) (hp : p < es.length) : (σ (p + 1)).h.get k = if Zeg es k p then ZiS es k p else (σ p).h.get k := by
  obtain ⟨e, he⟩ := C.get hp
  obtain ⟨_, _, _, r4, _⟩ := C.rok p e he
  have hs := (C.ok p e he).es'
  unfold Zeg ZiS
  rw [he]
  simp only
  cases hd : Dk e.r k with
  | true => simp [hs]
  | false => simpa using r4 k hd
theorem Ctx.chainT (C : Ctx P ext nt fu ops es σ τ) (t p : Nat) (hp : p < es.length) : (τ (p + 1)).get t = if ZfI es t p then ZiT es p else (τ p).get t := by
  obtain ⟨e, he⟩ := C.get hp
  have hs := (C.ok p e he).eT'
  unfold ZfI ZiT
  rw [he, hs]
  simp only
  cases hd : e.o.dst with
  | none => simp [ZaM]
  | some d =>
    simp only [ZaM, Tr.get_set]
    by_cases ht : t = d
    · subst ht; simp [Zl]
    · rw [Zg ht]
      have : ((some d : Option Nat) == some t) = false := by simpa using fun e => ht e.symm
      rw [this]
      simp
theorem Ctx.dk_lt (C : Ctx P ext nt fu ops es σ τ) {p k : Nat} {e : Ent} (he : es[p]? = some e) (hd : Dk e.r k = true) : k < (σ (p + 1)).n := by
  obtain ⟨r1, r2, r3, _⟩ := C.rok p e he
  rcases Zbz.1 hd with ⟨_, h⟩ | ⟨_, h⟩
  · have := r1.lt k h; have := r1.le; omega
  · omega
theorem Ctx.pair (C : Ctx P ext nt fu ops es σ τ) {i j : Nat} {d e : Ent} (hij : i < j) (hd : es[i]? = some d) (he : es[j]? = some e) : e.m.testBit i = true ∨ (Oper.apart ops d.o e.o = true ∧ ZiR d.r e.r ∧ ZiR e.r d.r ∧ ∀ k, Dk d.r k = true → Dk e.r k = true → False) := by
  have hj : j < es.length := (List.getElem?_eq_some_iff.1 he).1
  rcases ZfH (C.ok j e he).pairs i d (by rw [List.getElem?_take_of_lt hij]; exact hd) with h | ⟨h1, h2⟩
  · exact .inl (by simpa using h)
  · obtain ⟨r1, r2, r3, _⟩ := C.rok i d hd
    obtain ⟨q1, q2, q3, _⟩ := C.rok j e he
    exact .inr ⟨h1, ZjG h2 r1 q1 (by rw [r3, q2]; exact C.mono (by omega) (by omega))⟩
structure Zga (es : List Ent) (L : Nat → Bool) (i : Nat) (e : Ent) : Prop where
  at_ : es[i]? = some e
  cl : Zhw es L
  not : L i = false
  deps : ∀ d ∈ e.o.after.toList, Region.binds .any d = true → L d.on = true
theorem Ctx.masks (C : Ctx P ext nt fu ops es σ τ) : ∀ (i : Nat) (e : Ent), es[i]? = some e → e.m = ZaC (es.take i) e.o.after.toList := fun i e he => (C.ok i e he).em
theorem Ctx.loose (C : Ctx P ext nt fu ops es σ τ) {L : Nat → Bool} {i j : Nat} {e d : Ent} (R : Zga es L i e) (hd : es[j]? = some d) (hne : j < i ∧ L j = false ∨ i < j ∧ L j = true) :
    (∀ t, d.o.dst = some t → t ∉ e.o.looksAt ops) ∧ (∀ t, d.o.dst = some t → e.o.dst ≠ some t) ∧ ZiR e.r d.r ∧ ∀ k, Dk d.r k = true → Dk e.r k = true → False := by
  rcases hne with ⟨h1, h2⟩ | ⟨h1, h2⟩
  · rcases C.pair h1 hd R.at_ with h | ⟨g1, g2, g3, g4⟩
    · have := Zgp R.cl C.masks i e R.at_ R.deps h
      rw [h2] at this; cases this
    · obtain ⟨a1, a2, a3⟩ := Oper.apart_spec g1
      exact ⟨a1, a2, g3, g4⟩
  · rcases C.pair h1 R.at_ hd with h | ⟨g1, g2, g3, g4⟩
    · have := Zgp R.cl C.masks j d hd (R.cl j d hd h2) h
      rw [R.not] at this; cases this
    · obtain ⟨a1, a2, a3⟩ := Oper.apart_spec g1
      exact ⟨a3, fun t ht he => a2 t he ht, g2, fun k k1 k2 => g4 k k2 k1⟩
theorem Ctx.live (C : Ctx P ext nt fu ops es σ τ) : ∀ (i : Nat), i ≤ es.length → ∀ k, ((σ i).h.get k).isSome → ¬ ((σ i).n ≤ k ∧ k < (σ es.length).n) := by
  intro i
  induction i with
  | zero => intro _ k hk; exact C.old k hk
  | succ i ih =>
    intro hi k hk
    obtain ⟨e, he⟩ := C.get (i := i) (by omega)
    rw [C.chainH k i (by omega)] at hk
    have hd : Zeg es k i = Dk e.r k := by unfold Zeg; rw [he]
    rw [hd] at hk
    cases hdk : Dk e.r k with
    | true => have := C.dk_lt he hdk; omega
    | false =>
      rw [hdk] at hk
      have := ih (by omega) k (by simpa using hk)
      have := C.mono (i := i) (j := i + 1) (by omega) hi
      omega
theorem Ctx.agreeH (C : Ctx P ext nt fu ops es σ τ) {L : Nat → Bool} {i : Nat} {e : Ent} (R : Zga es L i e) (k : Nat) (h1 : e.r.small = true → k ∈ e.r.t ++ e.r.q) (h2 : e.r.small = false → ¬ ((σ i).n ≤ k ∧ k < (σ es.length).n)) (h3 : e.r.small = false → k ∉ e.r.q) : HL es L (σ 0) k = (σ i).h.get k := by
  have hi : i < es.length := (List.getElem?_eq_some_iff.1 R.at_).1
  have key : ∀ p, p < es.length → (p < i ∧ L p = false ∨ i < p ∧ L p = true) → Zeg es k p = false := fun p hp hh => by
    obtain ⟨d, hd⟩ := C.get hp
    obtain ⟨_, _, g3, _⟩ := C.loose R hd hh
    unfold Zeg
    rw [hd]
    simp only
    cases hs : e.r.small with
    | true => exact g3.1 hs k (h1 hs)
    | false =>
      by_cases hk : k < e.r.n0
      · exact g3.2 hs k hk (h3 hs)
      · cases hdk : Dk d.r k with
        | false => rfl
        | true =>
          exfalso
          have q := C.dk_lt hd hdk
          have := C.mono (i := p + 1) (j := es.length) (by omega) (Nat.le_refl _)
          have := (C.rok i e R.at_).2.1
          exact h2 hs ⟨by omega, by omega⟩
  exact ZdW (S := fun p => (σ p).h.get k) i es.length (by omega) (fun p hp => C.chainH k p hp) (fun p hp hL => key p (by omega) (.inl ⟨hp, hL⟩)) (fun p hp hn hL => by
    by_cases he : p = i
    · subst he; rw [R.not] at hL; cases hL
    · exact key p hn (.inr ⟨by omega, hL⟩))
theorem Ctx.agreeT (C : Ctx P ext nt fu ops es σ τ) {L : Nat → Bool} {i : Nat} {e : Ent} (R : Zga es L i e) (t : Nat) (ht : t ∈ e.o.looksAt ops) : TL es L (τ 0) t = (τ i).get t := by
  have hi : i < es.length := (List.getElem?_eq_some_iff.1 R.at_).1
  have key : ∀ p, p < es.length → (p < i ∧ L p = false ∨ i < p ∧ L p = true) → ZfI es t p = false := fun p hp hh => by
    obtain ⟨d, hd⟩ := C.get hp
    obtain ⟨g1, _⟩ := C.loose R hd hh
    unfold ZfI
    rw [hd]
    simp only
    cases hb : d.o.dst == some t with
    | false => rfl
    | true => exact absurd ht (g1 t (by simpa using hb))
  exact ZdW (S := fun p => (τ p).get t) i es.length (by omega) (fun p hp => C.chainT t p hp) (fun p hp hL => key p (by omega) (.inl ⟨hp, hL⟩)) (fun p hp hn hL => by
    by_cases he : p = i
    · subst he; rw [R.not] at hL; cases hL
    · exact key p hn (.inr ⟨by omega, hL⟩))
theorem Ctx.addH (C : Ctx P ext nt fu ops es σ τ) {L : Nat → Bool} {i : Nat} {e : Ent} (R : Zga es L i e) (k : Nat) : HL es (ZaN L i) (σ 0) k = if Dk e.r k then e.s'.h.get k else HL es L (σ 0) k := by
  have hi : i < es.length := (List.getElem?_eq_some_iff.1 R.at_).1
  have := ZjY (D := Zeg es k) (V := ZiS es k) (x0 := (σ 0).h.get k) i es.length hi R.not fun p hp hn hL hD => by
    obtain ⟨d, hd⟩ := C.get hn
    obtain ⟨_, _, _, g4⟩ := C.loose R hd (.inr ⟨hp, hL⟩)
    unfold Zeg at hD ⊢
    rw [hd] at hD
    rw [R.at_]
    simp only at hD ⊢
    cases hdk : Dk e.r k with
    | false => rfl
    | true => exact (g4 k hD hdk).elim
  unfold HL
  rw [this]
  unfold Zeg ZiS
  rw [R.at_]
theorem Ctx.addT (C : Ctx P ext nt fu ops es σ τ) {L : Nat → Bool} {i : Nat} {e : Ent} (R : Zga es L i e) (t : Nat) : TL es (ZaN L i) (τ 0) t = if e.o.dst = some t then some e.v else TL es L (τ 0) t := by
  have hi : i < es.length := (List.getElem?_eq_some_iff.1 R.at_).1
  have := ZjY (D := ZfI es t) (V := ZiT es) (x0 := (τ 0).get t) i es.length hi R.not fun p hp hn hL hD => by
    obtain ⟨d, hd⟩ := C.get hn
    obtain ⟨_, g2, _⟩ := C.loose R hd (.inr ⟨hp, hL⟩)
    unfold ZfI at hD ⊢
    rw [hd] at hD
    rw [R.at_]
    simp only at hD ⊢
    cases hdk : e.o.dst == some t with
    | false => rfl
    | true => exact absurd (by simpa using hdk) (g2 t (by simpa using hD))
  unfold TL
  rw [this]
  unfold ZfI ZiT
  rw [R.at_]
  simp only
  by_cases hb : e.o.dst = some t
  · simp [hb]
  · have : (e.o.dst == some t) = false := by simpa using hb
    rw [this, if_neg hb]
    simp
end
section
variable {P : Program} {ext : FuncId → Option Ext}

theorem ZfJ {ops : Array Oper} {listed : Array Bool} (hs : listed.size = ops.size) {i : Nat} : i ∈ Region.ready .any ops listed ↔ ∃ o, ops[i]? = some o ∧ listed.getD i false = false ∧ ∀ d ∈ o.after.toList, Region.binds .any d = true → listed.getD d.on false = true := by
 unfold Region.ready
 rw [List.mem_filter]
 simp only [List.mem_range, Bool.and_eq_true, Bool.not_eq_true']
 constructor
 ·rintro ⟨hi, h1, h2⟩
  have ho : ops[i]? = some ops[i] := Array.getElem?_eq_getElem hi
  rw [ho] at h2
  simp only [Option.map_some, Option.getD_some, Array.all_eq_true', Bool.or_eq_true, Bool.not_eq_true'] at h2
  refine ⟨ops[i], ho, ?_, fun d hd hb => ?_⟩
  ·have hl : i < listed.size := by omega
   simpa [Array.getD, hl] using h1
  ·rcases h2 d (by simpa using hd) with h | h
   ·rw [hb] at h; cases h
   ·exact h
 ·rintro ⟨o, ho, h1, h2⟩
  have hi : i < ops.size := (Array.getElem?_eq_some_iff.1 ho).1
  have hl : i < listed.size := by omega
  refine ⟨hi, by simpa [Array.getD, hl] using h1, ?_⟩
  rw [ho]
  simp only [Option.map_some, Option.getD_some, Array.all_eq_true', Bool.or_eq_true, Bool.not_eq_true']
  intro d hd
  cases hb : Region.binds .any d with
  | false => exact .inl rfl
  | true => exact .inr (h2 d (by simpa using hd) hb)
def cnt (L : Nat → Bool) : Nat → Nat
 | 0 => 0
 | p + 1 => cnt L p + if L p then 0 else 1
theorem ZjZ {L : Nat → Bool} {i : Nat} (hL : L i = false) : ∀ p, (p ≤ i → cnt (ZaN L i) p = cnt L p) ∧ (i < p → cnt (ZaN L i) p + 1 = cnt L p)
 | 0 => ⟨fun _ => rfl, fun h => by omega⟩
 | p + 1 => by
  obtain ⟨h1, h2⟩ := ZjZ hL p
  refine ⟨fun h => ?_, fun h => ?_⟩
  ·have : ZaN L i p = L p := by unfold ZaN; rw [if_neg (by omega)]
   rw [cnt, cnt, h1 (by omega), this]
  ·by_cases he : p = i
   ·subst he
    have : ZaN L p p = true := by simp [ZaN]
    rw [cnt, cnt, h1 (Nat.le_refl _), this, hL]
    simp
   ·have : ZaN L i p = L p := by unfold ZaN; rw [if_neg he]
    rw [cnt, cnt, this]
    have := h2 (by omega)
    omega
theorem ZiU {L : Nat → Bool} : ∀ p, cnt L p = 0 → ∀ j, j < p → L j = true
 | 0, _, j, hj => by omega
 | p + 1, h, j, hj => by
  rw [cnt] at h
  by_cases he : j = p
  ·subst he
   cases hL : L j with
   | true => rfl
   | false => rw [hL] at h; simp at h
  ·exact ZiU p (by omega) j (by omega)
theorem Zg0 {a : Act} {dst : Option Tmp} {nt : Nat} (hs : a.tmps.size = nt) (hd : ZbA nt dst = true) (v : Value) (t : Nat) : (a.put dst v).tmps.getD t undef = if dst = some t then v else a.tmps.getD t undef := by
 cases dst with
 | none => simp [Act.put]
 | some d =>
  have hlt : d < a.tmps.size := by rw [hs]; simpa [ZbA, Nat.blt_eq] using hd
  simp only [Act.put]
  by_cases ht : d = t
  ·subst ht
   simp [Array.getD, hlt]
  ·have : ¬ (some d = some t) := by simpa using ht
   rw [if_neg this]
   simp [Array.getD_eq_getD_getElem?, Array.getElem?_setIfInBounds_ne ht]
variable {nt fu : Nat} {ops : Array Oper} {es : List Ent} {σ : Nat → St} {τ : Nat → Tr Value}
structure Inv (P : Program) (nt : Nat) (D : List Deferred) (es : List Ent) (σ : Nat → St) (τ : Nat → Tr Value) (ι0 : Ren) (w0 : World) (L : Nat → Bool) (a : Act) (w : World) (ι : Ren) : Prop where
 step : Step P ι0 (σ 0).h.get w0 ι (HL es L (σ 0)) w
 dom : ∀ k, ι k ≠ none → ι0 k ≠ none ∨ far ≤ k ∨ ∃ j, L j = true ∧ j < es.length ∧ (σ j).n ≤ k ∧ k < (σ (j + 1)).n
 size : a.tmps.size = nt
 defers : a.defers = D
 temps : ∀ t, VR ι ((TL es L (τ 0) t).getD undef) (a.tmps.getD t undef)
theorem Ctx.order {D : List Deferred} (C : Ctx P ext nt fu ops es σ τ) {ι0 : Ren} {w0 : World} (hf : Fresh ι0 (σ 0).n (σ es.length).n) {Q : Exit → Act → World → Prop}
  (hQ : ∀ ι a w, Step P ι0 (σ 0).h.get w0 ι (σ es.length).h.get w → Dom ι0 ι (σ 0).n (σ es.length).n → TR ι nt D (τ es.length) a → Q .normal a w) :
  ∀ (fuel : Nat) (listed : Array Bool) (a : Act) (w : World) (ι : Ren), listed.size = ops.size → cnt (fun j => listed.getD j false) es.length ≤ fuel → Zhw es (fun j => listed.getD j false) → Inv P nt D es σ τ ι0 w0 (fun j => listed.getD j false) a w ι →
   wpAny P .any ops Q fuel listed a w := by
 -- all are listed
 have fin : ∀ (listed : Array Bool) (a : Act) (w : World) (ι : Ren), (∀ j, j < es.length → listed.getD j false = true) → Inv P nt D es σ τ ι0 w0 (fun j => listed.getD j false) a w ι → Q .normal a w := fun listed a w ι hall I => by
  have hH : HL es (fun j => listed.getD j false) (σ 0) = (σ es.length).h.get := funext fun k =>
   ZdW (S := fun p => (σ p).h.get k) es.length es.length (Nat.le_refl _) (fun p hp => C.chainH k p hp) (fun p hp hL => by rw [hall p hp] at hL; cases hL) (fun p h1 h2 => by omega)
  have hT : ∀ t, TL es (fun j => listed.getD j false) (τ 0) t = (τ es.length).get t := fun t =>
   ZdW (S := fun p => (τ p).get t) es.length es.length (Nat.le_refl _) (fun p hp => C.chainT t p hp) (fun p hp hL => by rw [hall p hp] at hL; cases hL) (fun p h1 h2 => by omega)
  refine hQ ι a w (hH ▸ I.step) (fun k hk => ?_) ⟨I.size, I.defers, fun t => hT t ▸ I.temps t⟩
  rcases I.dom k hk with h | h | ⟨j, _, hj, h1, h2⟩
  ·exact .inl h
  ·exact .inr (.inr h)
  ·have := C.mono (i := 0) (j := j) (by omega) (by omega)
   have := C.mono (i := j + 1) (j := es.length) (by omega) (Nat.le_refl _)
   exact .inr (.inl ⟨by omega, by omega⟩)
 have none_ready : ∀ (listed : Array Bool), listed.size = ops.size → Region.ready .any ops listed = [] → ∀ j, j < es.length → listed.getD j false = true := fun listed hs hr => by
  intro j
  induction j using Nat.strongRecOn with
  | _ j ih =>
   intro hj
   obtain ⟨e, he⟩ := C.get hj
   cases hL : listed.getD j false with
   | true => rfl
   | false =>
    exfalso
    have hm : j ∈ Region.ready .any ops listed := (ZfJ hs).2 ⟨e.o, C.op j e he, hL, fun d hd hb => by
     have := ZfG (C.ok j e he).edges d hd hb
     rw [List.length_take] at this
     exact ih d.on (by omega) (by omega)⟩
    rw [hr] at hm
    cases hm
 intro fuel
 induction fuel with
 | zero =>
  intro listed a w ι hs hc _ I
  have hall := ZiU es.length (by omega : cnt (fun j => listed.getD j false) es.length = 0)
  refine ⟨?_, fin listed a w ι hall I⟩
  cases hr : Region.ready .any ops listed with
  | nil => rfl
  | cons i l =>
   obtain ⟨o, ho, h1, _⟩ := (ZfJ hs).1 (show i ∈ Region.ready .any ops listed by rw [hr]; simp)
   have hi : i < es.length := by rw [C.len]; exact (Array.getElem?_eq_some_iff.1 ho).1
   have := hall i hi
   rw [h1] at this
   cases this
 | succ fuel ih =>
  intro listed a w ι hs hc hcl I
  refine ⟨fun hr => fin listed a w ι (none_ready listed hs hr) I, fun i hi => ?_⟩
  obtain ⟨o, ho, h1, h2⟩ := (ZfJ hs).1 hi
  have hin : i < es.length := by rw [C.len]; exact (Array.getElem?_eq_some_iff.1 ho).1
  obtain ⟨e, he⟩ := C.get hin
  have heo : e.o = o := by have := C.op i e he; rw [ho] at this; exact (Option.some.inj this).symm
  subst heo
  have R : Zga es (fun j => listed.getD j false) i e := ⟨he, hcl, h1, h2⟩
  obtain ⟨rk, rn0, rn1, _, rsh⟩ := C.rok i e he
  have hK : ∀ k o', Kof e k = some o' → HL es (fun j => listed.getD j false) (σ 0) k = some o' := fun k o' hk => by
   unfold Kof at hk
   split at hk
   ·rename_i hsm
    rw [ZdV] at hk
    split at hk
    ·rename_i hm
     rw [C.agreeH R k (fun _ => hm) (fun e => by rw [hsm] at e; cases e) (fun e => by rw [hsm] at e; cases e)]
     rw [← rsh]; exact hk
    ·cases hk
   ·rename_i hsm
    rw [rsh, ZaU] at hk
    split at hk
    ·rw [Tr.get_nil] at hk; cases hk
    ·rename_i hm
     rw [C.agreeH R k (fun e => absurd e hsm) (fun _ => C.live i (by omega) k (by rw [hk]; rfl)) (fun _ => hm)]
     exact hk
  have hfr : Fresh ι (σ i).n (σ (i + 1)).n := ⟨Nat.le_trans (C.mono (i := i + 1) (j := es.length) (by omega) (Nat.le_refl _)) hf.1, fun k k1 k2 => by
   cases hk : ι k with
   | none => rfl
   | some c =>
    exfalso
    have m1 := C.mono (i := 0) (j := i) (by omega) (by omega)
    have m2 := C.mono (i := i + 1) (j := es.length) (by omega) (Nat.le_refl _)
    rcases I.dom k (by rw [hk]; simp) with h | h | ⟨j, hj, hjn, q1, q2⟩
    ·exact h (hf.2 k (by omega) (by omega))
    ·have := hf.1; omega
    ·by_cases hji : j = i
     ·subst hji
      have hj' : listed.getD j false = true := hj
      rw [h1] at hj'; cases hj'
     ·rcases Nat.lt_or_ge j i with h | h
      ·have := C.mono (i := j + 1) (j := i) (by omega) (by omega); omega
      ·have := C.mono (i := i + 1) (j := j) (by omega) (by omega); omega⟩
  have hil : i < listed.size := by rw [hs, ← C.len]; exact hin
  have hL' : (fun j => (listed.setIfInBounds i true).getD j false) = ZaN (fun j => listed.getD j false) i := funext fun j => by
   unfold ZaN
   by_cases hj : j = i
   ·subst hj; simp [Array.getD, hil]
   ·rw [if_neg hj]
    simp [Array.getD_eq_getD_getElem?, Array.getElem?_setIfInBounds_ne (fun e => hj e.symm)]
  refine C.sem i e he ι w a _ Q (fun t ht => ?_) (I.step.emb.sub hK) hfr fun v' w' ι' st dm hv => ?_
  ·rw [← C.agreeT R t ht]
   exact I.temps t
  ·-- the others stay
   have hX1 : join (Kof e) (fun k => if (Kof e k).isSome then none else HL es (fun j => listed.getD j false) (σ 0) k) = HL es (fun j => listed.getD j false) (σ 0) := funext fun k => by
    cases hk : Kof e k with
    | some o' => rw [ZaV (by rw [hk]; rfl), hk, hK k o' hk]
    | none => rw [Zao hk, hk]; rfl
   have hX2 : join (ZiQ e) (fun k => if (Kof e k).isSome then none else HL es (fun j => listed.getD j false) (σ 0) k) = HL es (ZaN (fun j => listed.getD j false) i) (σ 0) := funext fun k => by
    rw [C.addH R k]
    unfold join ZiQ
    cases hd : Dk e.r k with
    | false =>
     simp only [Bool.false_eq_true, if_false]
     cases hk : Kof e k with
     | some o' => exact (hK k o' hk).symm
     | none => rfl
    | true =>
     simp only [if_true]
     cases hs' : e.s'.h.get k with
     | some o' => rfl
     | none =>
      simp only
      split
      ·rfl
      ·rename_i hn
       have hkn : Kof e k = none := by
        cases hk : Kof e k with
        | none => rfl
        | some o' => rw [hk] at hn; exact absurd rfl hn
       rcases Zbz.1 hd with ⟨q1, q2⟩ | ⟨q1, q2⟩
       ·have hlt := rk.lt k q2
        rw [C.agreeH R k (fun _ => List.mem_append_left _ q2) (fun _ => by omega) (fun hs => rk.qt hs k q2)]
        unfold Kof at hkn
        split at hkn
        ·rw [ZdV, if_pos (List.mem_append_left _ q2), rsh] at hkn; exact hkn
        ·rename_i hsm
         rw [rsh, ZaU, if_neg (rk.qt (by simpa using hsm) k q2)] at hkn; exact hkn
       ·cases hx : HL es (fun j => listed.getD j false) (σ 0) k with
        | none => rfl
        | some o' =>
         obtain ⟨b, hb⟩ := I.step.emb.live (k := k) (by rw [hx]; rfl)
         have := hfr.2 k (by omega) (by omega)
         rw [this] at hb
         cases hb
   have fr := Step.framed st (x := fun k => if (Kof e k).isSome then none else HL es (fun j => listed.getD j false) (σ 0) k) (by rw [hX1]; exact I.step.emb) (fun k hk => by
    cases hkk : Kof e k with
    | none => rfl
    | some o' => simp only [hkk] at hk; simp at hk)
   rw [hX1, hX2] at fr
   have hdst := (C.ok i e he).dst
   refine ih (listed.setIfInBounds i true) _ w' ι' (by simpa using hs) ?_ ?_ ?_
   ·rw [hL']
    have := (ZjZ (L := fun j => listed.getD j false) (i := i) h1 es.length).2 hin
    omega
   ·rw [hL']
    intro j d hd hj x hx hb
    unfold ZaN at hj ⊢
    split
    ·rfl
    ·by_cases hji : j = i
     ·subst hji
      rw [he] at hd; injection hd with hd; subst hd
      exact h2 x hx hb
     ·rw [if_neg hji] at hj
      exact hcl j d hd hj x hx hb
   ·rw [hL']
    refine ⟨I.step.trans fr, fun k hk => ?_, ?_, ?_, fun t => ?_⟩
    ·rcases dm k hk with h | ⟨q1, q2⟩ | h
     ·rcases I.dom k h with h | h | ⟨j, hj, hjn, q1, q2⟩
      ·exact .inl h
      ·exact .inr (.inl h)
      ·exact .inr (.inr ⟨j, by unfold ZaN; split <;> first | rfl | exact hj, hjn, q1, q2⟩)
     ·exact .inr (.inr ⟨i, by simp [ZaN], hin, q1, q2⟩)
     ·exact .inr (.inl h)
    ·have := I.size
     cases e.o.dst <;> simp [Act.put, this]
    ·have := I.defers
     cases e.o.dst <;> simp [Act.put, this]
    ·rw [C.addT R t, Zg0 I.size hdst]
     by_cases hdt : e.o.dst = some t
     ·rw [if_pos hdt, if_pos hdt]; exact hv
     ·rw [if_neg hdt, if_neg hdt]; exact (I.temps t).ext fr.ext
end
section
variable {P : Program} {ext : FuncId → Option Ext}

noncomputable def SOp (P : Program) (ext : FuncId → Option Ext) (fu : Nat) : Prop :=
  ∀ (ρ ρ' : Operand → Value) (o : Oper) (s : St) (v : Value) (s' : St), Zci P ext fu ρ o s = some (v, s') → (∀ p ∈ s'.ob, p.1 = p.2) → ∀ (ι : Ren) (w : World), (∀ x, VR ι (ρ x) (ρ' x)) → Emb P ι s.h.get w → Fresh ι s.n s'.n →
    ∀ (a : Act) (K : Act → World → Prop) (Q : Exit → Act → World → Prop), execOp a.eval o = execOp ρ' o → (∀ v' w' ι', Step P ι s.h.get w ι' s'.h.get w' → Dom ι ι' s.n s'.n → VR ι' v v' → K (a.put o.dst v') w') → o.wp P a w K Q
noncomputable def K0 (r : Rec) (s : St) : AH := if r.small then (ZdS s.h (r.t ++ r.q)).get else (ZbB .nil r.q s.h).get
theorem Zcf {n k : Nat} : ∀ {l : List Nat}, k ∈ ZdD n l ↔ k ∈ l ∧ k < n
  | [] => by simp [ZdD]
  | x :: l => by
    simp only [ZdD]
    cases hx : Nat.blt x n with
    | true =>
      have : x < n := Nat.le_of_ble_eq_true hx
      simp only [cond_true, List.mem_cons, Zcf (l := l)]
      constructor
      · rintro (rfl | ⟨h1, h2⟩)
        · exact ⟨.inl rfl, this⟩
        · exact ⟨.inr h1, h2⟩
      · rintro ⟨rfl | h1, h2⟩
        · exact .inl rfl
        · exact .inr ⟨h1, h2⟩
    | false =>
      have : ¬ x < n := fun e => by rw [show Nat.blt x n = true from Nat.ble_eq_true_of_le e] at hx; cases hx
      simp only [cond_false, List.mem_cons, Zcf (l := l)]
      constructor
      · rintro ⟨h1, h2⟩; exact ⟨.inr h1, h2⟩
      · rintro ⟨rfl | h1, h2⟩
        · exact absurd h2 this
        · exact ⟨h1, h2⟩
theorem ZhJ (F : Fit P ext) {fu : Nat} {xs : List Nat} {ρ : Operand → Value} {o : Oper} {s s' : St} {v : Value} {r : Rec} (h : Zdn P ext (fu + 1) xs ρ o s = some (v, s', r)) :
    ZgW r ∧ r.n0 = s.n ∧ r.n1 = s'.n ∧ (∀ k, Dk r k = false → s'.h.get k = s.h.get k) ∧
    ∃ (s0 s1 : St), Zci P ext fu ρ o s0 = some (v, s1) ∧ s0.n = s.n ∧ s1.n = s'.n ∧ s1.ob = s'.ob ∧ s0.h.get = K0 r s ∧ s1.h.get = fun k => if Dk r k then s'.h.get k else K0 r s k := by
  have ndk : ∀ {k : Nat}, Dk r k = false → ¬ ((r.w = true ∧ k ∈ r.t) ∨ (r.n0 ≤ k ∧ k < r.n1)) := fun {k} hd hn => by rw [Zbz.2 hn] at hd; cases hd
  simp only [Zdn] at h
  split at h
  · split at h
    · rename_i v1 s1 h1
      obtain ⟨hall, h⟩ := Zh h
      simp only [Bool.and_eq_true] at hall
      obtain ⟨hall, hxl, hxw⟩ := hall
      injection h with h
      simp only [Prod.mk.injEq] at h
      obtain ⟨rfl, rfl, rfl⟩ := h
      have u := (Zal (P := P) (ext := ext) (fun f g hg => (F.hp f g hg).up) fu).2.2.1 _ _ _ _ _ h1
      obtain ⟨l, e1, e2⟩ := u.log
      simp only [List.append_nil] at e1
      subst e1
      have hx : ∀ k ∈ xs, k < s.n := fun k hk => Nat.le_of_ble_eq_true (Z2 hxl k hk)
      have same : ∀ k, Dk ⟨false, true, ZdD s.n s1.wr, s.n, s1.n, xs⟩ k = false → s1.h.get k = (ZbB .nil xs s.h).get k := fun k hd => by
        have hn := ndk hd
        refine e2 k (fun hk => hn ?_) (fun hk => hn (.inr hk))
        have hk1 : k < s1.n := Nat.le_of_ble_eq_true (Z2 hall k hk)
        by_cases hks : k < s.n
        · exact .inl ⟨rfl, Zcf.2 ⟨hk, hks⟩⟩
        · exact .inr ⟨Nat.not_lt.1 hks, hk1⟩
      refine ⟨⟨fun k hk => (Zcf.1 hk).2, hx, u.n, fun _ => rfl, fun _ k hk hm => ZaE hxw hm (Zcf.1 hk).1⟩, rfl, rfl, fun k hd => ?_, _, s1, h1, rfl, rfl, rfl, rfl, funext fun k => ?_⟩
      · show (ZbB _ _ _).get k = _
        rw [ZaU]
        split
        · rfl
        · rename_i hm
          rw [same k hd, ZaU, if_neg hm]
      · split
        · rename_i hd
          show _ = (ZbB _ _ _).get k
          rw [ZaU, if_neg]
          intro hm
          rcases Zbz.1 hd with ⟨_, q2⟩ | ⟨q1, _⟩
          · exact ZaE hxw hm (Zcf.1 q2).1
          · have := hx k hm; simp only at q1; omega
        · rename_i hd
          exact same k (by simpa using hd)
    · cases h
  · generalize hw : (Zcv s ρ o).1 = w at h
    generalize ht : (Zcv s ρ o).2 = t at h
    generalize hq : Zex ρ o = q at h
    obtain ⟨hltq, h⟩ := Zh h
    obtain ⟨hlt, hlq⟩ := (Bool.and_eq_true _ _).mp hltq
    split at h
    · rename_i v1 s1 h1
      obtain ⟨hall, h⟩ := Zh h
      simp only [Bool.and_eq_true] at hall
      injection h with h
      simp only [Prod.mk.injEq] at h
      obtain ⟨rfl, rfl, rfl⟩ := h
      have u := (Zal (P := P) (ext := ext) (fun f g hg => (F.hp f g hg).up) fu).2.2.1 _ _ _ _ _ h1
      obtain ⟨l, e1, e2⟩ := u.log
      simp only [List.append_nil] at e1
      subst e1
      have hle : s1.n ≤ s.n + 1 := Nat.le_of_ble_eq_true hall.2
      have hge : s.n ≤ s1.n := u.n
      have htl : ∀ k ∈ t, k < s.n := fun k hk => Nat.le_of_ble_eq_true (Z2 hlt k hk)
      have hwr : ∀ k ∈ s1.wr, w = true ∧ k ∈ t := fun k hk => by
        have := Z2 hall.1 k hk
        simp only [Bool.and_eq_true, ZbX] at this
        exact this
      have gets : ∀ k, ((bif w then ZbB s1.h t s.h else s.h).set s.n (bif Nat.beq s1.n s.n then s.h.get s.n else s1.h.get s.n)).get k =
          if k = s.n then (bif Nat.beq s1.n s.n then s.h.get s.n else s1.h.get s.n) else if w = true ∧ k ∈ t then s1.h.get k else s.h.get k := fun k => by
        rw [Tr.get_set]
        unfold upd
        split
        · rfl
        · cases w with
          | false => simp
          | true =>
            simp only [cond_true, true_and]
            rw [ZaU]
      refine ⟨⟨htl, fun k hk => Nat.le_of_ble_eq_true (Z2 hlq k hk), hge, fun e => (by cases e), fun e => by cases e⟩, rfl, rfl, fun k hd => ?_, _, s1, h1, rfl, rfl, rfl, rfl, funext fun k => ?_⟩
      · have hn := ndk hd
        rw [gets]
        split
        · rename_i hk
          subst hk
          have : s1.n = s.n := by
            rcases Nat.lt_or_ge s.n s1.n with h | h
            · exact absurd (.inr ⟨Nat.le_refl _, h⟩) hn
            · omega
          rw [ZcE this]; rfl
        · split
          · rename_i hk; exact absurd (.inl hk) hn
          · rfl
      · split
        · rename_i hd
          rw [gets]
          rcases Zbz.1 hd with ⟨q1, q2⟩ | ⟨q1, q2⟩
          · have := htl k q2
            rw [if_neg (by omega), if_pos ⟨q1, q2⟩]
          · simp only at q1 q2
            have hk : k = s.n := by omega
            subst hk
            rw [if_pos rfl, Zc5 (by omega)]; rfl
        · rename_i hd
          have hn := ndk (by simpa using hd)
          show _ = (ZdS s.h (t ++ q)).get k
          exact e2 k (fun hk => hn (.inl (hwr k hk))) (fun hk => hn (.inr hk))
    · cases h
theorem ZeK {t : Tmp} : ∀ {l : List Operand}, t ∈ Zc3 l ↔ .tmp t ∈ l
  | [] => by simp [Zc3]
  | x :: l => by cases x <;> simp [Zc3, ZeK (l := l)]
theorem ZhK {T : Tr Value} (t : Nat) : ∀ (l : List Tmp), (ZfZ T l).get t = if t ∈ l then T.get t else none
  | [] => by simp [ZfZ, Tr.get_nil]
  | j :: l => by
    rw [ZfZ, Tr.get_set]
    by_cases hk : t = j
    · subst hk; rw [Zl]; simp
    · rw [Zg hk, ZhK t l]
      simp [hk]
theorem ZdH {fu : Nat} {ρ : Operand → Value} {o : Oper} {s s' : St} {v : Value} (h : Zci P ext fu ρ o s = some (v, s')) : ∀ cs b, o.op ≠ .select cs b := fun cs b hsel => by
  cases fu with
  | zero => simp [Zci] at h
  | succ fu =>
    have h1 : ev1 P ρ o s = none := by unfold ev1; rw [hsel]
    simp only [Zci, Zew, hsel, h1] at h
    cases h
theorem ZiV (F : Fit P ext) {nt fu : Nat} {D : List Deferred} {ops : Array Oper} {es : List Ent} {T T' : Tr Value} {s s' : St} (hS : ∀ fu', fu' < fu → SOp P ext fu') (h : Zbg P ext nt fu ops [] ops.toList T s = some (es, T', s')) (ho : ∀ p ∈ s'.ob, p.1 = p.2)
    {ι : Ren} {a : Act} {w : World} {Q : Exit → Act → World → Prop} (hT : TR ι nt D T a) (he : Emb P ι s.h.get w) (hf : Fresh ι s.n s'.n)
    (hQ : ∀ ι' a' w', Step P ι s.h.get w ι' s'.h.get w' → Dom ι ι' s.n s'.n → TR ι' nt D T' a' → Q .normal a' w') : wpAny P .any ops Q ops.size (Array.replicate ops.size false) a { w with drawn := w.drawn + 1 } := by
  obtain ⟨es2, σ, τ, h1, h2, h3, h4, h5, h6, h7⟩ := ZgX nt ops fu _ _ _ _ _ _ _ h
  simp only [List.nil_append] at h1 h7
  subst h1
  have hlen : es.length = ops.size := by rw [← List.length_map (f := (·.o)), h2]; simp
  have hN : ops.toList.length = es.length := by rw [hlen]; simp
  rw [hN] at h5 h6
  have hop : ∀ (i : Nat) (e : Ent), es[i]? = some e → ops[i]? = some e.o := fun i e hi => by
    have : (es.map (·.o))[i]? = some e.o := by simp [hi]
    rw [h2] at this
    simpa using this
  have hup : ∀ (i : Nat) (e : Ent), es[i]? = some e → Up (σ i) e.s ∧ Up e.s e.s' := fun i e hi => by
    obtain ⟨b, q1, q2, q3⟩ := (h7 i e hi).run
    refine ⟨Zaa q1, ?_⟩
    cases b with
    | true =>
      obtain ⟨fu', _, xs, hv⟩ := q2 rfl
      exact (Zal (P := P) (ext := ext) (fun f g hg => (F.hp f g hg).up) fu').2.2.2.2.2 _ _ _ _ _ _ _ hv
    | false => obtain ⟨_, e1, _⟩ := q3 rfl; rw [e1]; exact Up.refl _
  have upn : ∀ m i, i + m = es.length → Up (σ i) (σ es.length) := by
    intro m
    induction m with
    | zero => intro i hi; obtain rfl : i = es.length := by omega
              exact Up.refl _
    | succ m ih =>
      intro i hi
      have hlt : i < es.length := by omega
      obtain ⟨u1, u2⟩ := hup i es[i] (List.getElem?_eq_getElem hlt)
      have := ih (i + 1) (by omega)
      rw [(h7 i es[i] (List.getElem?_eq_getElem hlt)).es'] at this
      exact (u1.trans u2).trans this
  have hob : ∀ (i : Nat) (e : Ent), es[i]? = some e → ∀ p ∈ e.s'.ob, p.1 = p.2 := fun i e hi => by
    have hlt : i < es.length := (List.getElem?_eq_some_iff.1 hi).1
    have u := upn (es.length - (i + 1)) (i + 1) (by omega)
    rw [(h7 i e hi).es', h5] at u
    exact ZL u.ob ho
  -- a test answered so is so
  have hst : ∀ (i : Nat) (e : Ent), es[i]? = some e → e.s.h = (σ i).h ∧ e.s.n = (σ i).n := fun i e hi => by
    obtain ⟨b, q1, _, _⟩ := (h7 i e hi).run
    unfold Zbw at q1
    split at q1
    · injection q1 with q1; injection q1 with g1 g2; rw [← g2]; exact ⟨rfl, rfl⟩
    · split at q1
      · split at q1
        · injection q1 with q1; injection q1 with g1 g2; rw [← g2]; exact ⟨rfl, rfl⟩
        · injection q1 with q1; injection q1 with g1 g2; rw [← g2]; exact ⟨rfl, rfl⟩
        · cases q1
      · cases q1
  have hrec : ∀ (i : Nat) (e : Ent), es[i]? = some e → ZgW e.r ∧ e.r.n0 = (σ i).n ∧ e.r.n1 = (σ (i + 1)).n ∧ (∀ k, Dk e.r k = false → (σ (i + 1)).h.get k = (σ i).h.get k) ∧ e.s.h = (σ i).h := fun i e hi => by
    obtain ⟨g1, g2⟩ := hst i e hi
    obtain ⟨b, q1, q2, q3⟩ := (h7 i e hi).run
    rw [(h7 i e hi).es']
    cases b with
    | true =>
      obtain ⟨fu', _, xs, hv⟩ := q2 rfl
      cases fu' with
      | zero => simp [Zdn] at hv
      | succ fu' =>
        obtain ⟨r1, r2, r3, r4, _⟩ := ZhJ F hv
        exact ⟨r1, by rw [r2, g2], r3, fun k hk => by rw [r4 k hk, g1], g1⟩
    | false =>
      obtain ⟨_, e1, e2⟩ := q3 rfl
      rw [e1, e2]
      exact ⟨⟨fun k hk => by simp [Zdh] at hk, fun k hk => by simp [Zdh] at hk, Nat.le_refl _, fun e => (by simp [Zdh] at e), fun e => by simp [Zdh] at e⟩, g2, rfl, fun k _ => by rw [g1], g1⟩
  have C : Ctx P ext nt fu ops es σ τ := by
    refine ⟨hlen, hop, h7, hrec, fun k hk => ?_, fun i e hi ι1 w1 a1 K Q1 ht1 he1 hf1 hK => ?_⟩
    · rw [h3] at hk ⊢
      rw [h5]
      rintro ⟨k1, k2⟩
      obtain ⟨b, hb⟩ := he.live hk
      rw [hf.2 k k1 k2] at hb
      cases hb
    · obtain ⟨g1, g2⟩ := hst i e hi
      obtain ⟨b, q1, q2, q3⟩ := (h7 i e hi).run
      have hes' := (h7 i e hi).es'
      have hlt : i < es.length := (List.getElem?_eq_some_iff.1 hi).1
      obtain ⟨hwant, _, _⟩ := ZaG ht1 q1
      unfold wpOp
      rw [hop i e hi]
      simp only
      cases b with
      | true =>
        rw [if_pos hwant]
        obtain ⟨fu', hfu, xs, hv⟩ := q2 rfl
        cases fu' with
        | zero => simp [Zdn] at hv
        | succ fu' =>
          obtain ⟨r1, r2, r3, r4, s0, s1, hv1, n0, n1, ob1, hh0, hh1⟩ := ZhJ F hv
          refine .inl (hS fu' (by omega) _ (fun x => match x with | .tmp t => if t ∈ Zc3 e.o.op.operands.toList then a1.tmps.getD t undef else undef | x => Zaf a1 x) e.o s0 e.v s1 hv1 (by rw [ob1]; exact hob i e hi) ι1 w1 (fun x => ?_) ?_ ?_ a1 K Q1 ?_ fun v' w' ι' k1 k2 k3 => ?_)
          · cases x with
            | tmp t =>
              simp only [opnd]
              rw [ZhK]
              by_cases htm : t ∈ Zc3 e.o.op.operands.toList
              · rw [if_pos htm, if_pos htm]
                refine ht1 t ?_
                unfold Oper.looksAt
                refine List.mem_append_left _ (List.mem_filterMap.2 ⟨.tmp t, ZeK.1 htm, rfl⟩)
              · rw [if_neg htm, if_neg htm]; exact VR.undef'
            | const v =>
              simp only [opnd, Zaf]
              cases hfv : ZaA v
              · exact VR.undef'
              · exact VR.of_free hfv
            | global g => exact .glob rfl
            | func f => exact .atom rfl
          · rw [hh0]; exact he1
          · rw [n0, n1, g2, ← hes']; exact hf1
          · refine execOp_congr e.o (fun cs b hsel => ?_) fun x hx => ?_
            · exact ZdH hv1 cs b hsel
            · have hg := Z2 (h7 i e hi).good x (by simpa using hx)
              cases x with
              | tmp t => simp only; rw [if_pos (ZeK.2 (by simpa using hx))]; rfl
              | const v => simp only [ZaY] at hg; simp [Zaf, hg, Act.eval]
              | global g => rfl
              | func f => rfl
          · rw [hh0, hh1] at k1
            rw [n0, n1, g2, ← hes'] at k2
            exact hK v' w' ι' k1 k2 k3
      | false =>
        obtain ⟨e0, e1, e2⟩ := q3 rfl
        rw [if_neg (by rw [hwant]; simp)]
        refine hK undef w1 ι1 ?_ Dom.refl (by rw [e0]; exact VR.undef')
        have : ZiQ e = Kof e := funext fun k => by
          unfold ZiQ
          rw [e2]
          have : Dk (Zdh e.s) k = false := by
            cases hd : Dk (Zdh e.s) k with
            | false => rfl
            | true =>
              rcases Zbz.1 hd with ⟨q, _⟩ | ⟨q1, q2⟩
              · simp [Zdh] at q
              · simp only [Zdh] at q1 q2; omega
          rw [this]; rfl
        rw [this]
        exact Step.refl he1
  have none0 : ∀ {β : Type} (D : Nat → Bool) (V : Nat → β) (x0 : β) (L : Nat → Bool), (∀ j, L j = false) → ∀ n, ovf L D V x0 n = x0 := fun D V x0 L hL n => by
    induction n with
    | zero => rfl
    | succ n ih => rw [ovf, hL n, ih]; simp
  have hL0 : ∀ j, (Array.replicate ops.size false).getD j false = false := fun j => by
    simp only [Array.getD_eq_getD_getElem?, Array.getElem?_replicate]
    split <;> rfl
  have hH0 : HL es (fun j => (Array.replicate ops.size false).getD j false) (σ 0) = (σ 0).h.get := funext fun k => none0 _ _ _ _ hL0 _
  have hT0 : ∀ t, TL es (fun j => (Array.replicate ops.size false).getD j false) (τ 0) t = (τ 0).get t := fun t => none0 _ _ _ _ hL0 _
  have hs0 : Step P ι (σ 0).h.get w ι (σ 0).h.get { w with drawn := w.drawn + 1 } := Step.still (by rw [h3]; exact he) rfl rfl rfl rfl
  refine C.order (ι0 := ι) (w0 := w) (by rw [h3, h5]; exact hf) (Q := Q) (fun ι' a' w' k1 k2 k3 => ?_) ops.size _ a _ ι (by simp) ?_ ?_ ⟨by rw [hH0]; exact hs0, fun k hk => .inl hk, hT.1, hT.2.1, fun t => by rw [hT0, h4]; exact hT.2.2 t⟩
  · rw [h3, h5] at k1 k2
    rw [h6] at k3
    exact hQ ι' a' w' k1 k2 k3
  · rw [← hlen]
    have : ∀ n, cnt (fun j => (Array.replicate es.length false).getD j false) n ≤ n := fun n => by
      induction n with
      | zero => exact Nat.le_refl _
      | succ n ih => rw [cnt]; split <;> omega
    exact this _
  · intro i e _ hi
    exact absurd ((hL0 i).symm.trans hi) (by decide)
theorem ZkC (F : Fit P ext) {nt fu : Nat} {D : List Deferred} {ops : Array Oper} {es : List Ent} {T T' : Tr Value} {s s' : St} (hS : ∀ fu', fu' < fu → SOp P ext fu') (h : Zbg P ext nt fu ops [] ops.toList T s = some (es, T', s')) (ho : ∀ p ∈ s'.ob, p.1 = p.2)
    {ι : Ren} {a : Act} {w : World} {Q : Exit → Act → World → Prop} {id : Nat} (hT : TR ι nt D T a) (he : Emb P ι s.h.get w) (hf : Fresh ι s.n s'.n)
    (hQ : ∀ ι' a' w', Step P ι s.h.get w ι' s'.h.get w' → Dom ι ι' s.n s'.n → TR ι' nt D T' a' → Q .normal a' w') : (Code.region id ops true).wp P Q a w :=
  wp_region_any F.mixed (ZiV F hS h ho hT he hf hQ)
end
section
variable {P : Program} {ext : FuncId → Option Ext}

def ZbG (P : Program) (ι : Ren) (s : St) (w : World) (nt : Nat) (D : List Deferred) (e : Ex) (T' : Tr Value) (s' : St) (ex : Exit) (a' : Act) (w' : World) : Prop :=
 ex = e.out ∧ ∃ ι', Step P ι s.h.get w ι' s'.h.get w' ∧ Dom ι ι' s.n s'.n ∧ TR ι' nt D T' a'
theorem Step.two {ι ι1 ι2 : Ren} {s s1 s2 : St} {w w1 w2 : World} (a : Step P ι s.h.get w ι1 s1.h.get w1 ∧ Dom ι ι1 s.n s1.n) (b : Step P ι1 s1.h.get w1 ι2 s2.h.get w2 ∧ Dom ι1 ι2 s1.n s2.n) (h1 : s.n ≤ s1.n) (h2 : s1.n ≤ s2.n) :
  Step P ι s.h.get w ι2 s2.h.get w2 ∧ Dom ι ι2 s.n s2.n := ⟨a.1.trans b.1, a.2.trans b.2 h1 h2⟩
theorem Zgq {o : Oper} {c : Call} (h : Zew o = some c) : o.op = .call c ∧ True := by
 unfold Zew at h
 split at h
 ·rename_i c' ho
  split at h
  ·rename_i f hf
   injection h with h; subst h
   exact ⟨ho, trivial⟩
  ·injection h with h; subst h
   exact ⟨ho, trivial⟩
  ·cases h
 ·cases h
theorem ZaQ {ι : Ren} {a a' b b' : Array Value} (h : VRs ι a a') (k : VRs ι b b') : VRs ι (a ++ b) (a' ++ b') := by
 refine ⟨by simp [h.1, k.1], fun i x y hx hy => ?_⟩
 by_cases hi : i < a.size
 ·rw [Array.getElem?_append_left hi] at hx
  rw [Array.getElem?_append_left (by rw [← h.1]; exact hi)] at hy
  exact h.2 i x y hx hy
 ·rw [Array.getElem?_append_right (by omega)] at hx
  rw [Array.getElem?_append_right (by rw [← h.1]; omega), ← h.1] at hy
  exact k.2 _ x y hx hy
theorem ZfK {ι : Ren} {ρ ρ' : Operand → Value} {o : Oper} {c : Call} {f : FuncId} {args : Array Value} (hρ : ∀ x, VR ι (ρ x) (ρ' x)) (ho : o.op = .call c) (h : callee ρ c = some (f, args)) (w : World) :
  ∃ args', (execOp ρ' o).run P w = (callFunc f args').run P w ∧ VRs ι args args' := by
 unfold callee at h
 split at h
 ·rename_i x hx
  split at h
  ·rename_i g a b hg
   injection h with h; injection h with h1 h2; subst h1 h2
   have hv := hg ▸ hρ x
   have : ∃ a' b', ρ' x = .func (.func g) a' b' ∧ VRs ι a a' ∧ VRs ι b b' := by
    generalize ρ' x = x' at hv
    cases hv with
    | atom h =>
     simp [Ev.atom] at h
     obtain ⟨rfl, rfl⟩ := h
     exact ⟨_, _, rfl, ⟨rfl, fun i x y hx => by simp at hx⟩, ⟨rfl, fun i x y hx => by simp at hx⟩⟩
    | func hs ht h1 h2 => exact ⟨_, _, rfl, ⟨hs, h1⟩, ⟨ht, h2⟩⟩
   obtain ⟨a', b', hx', ha, hb⟩ := this
   refine ⟨a' ++ c.args.map ρ' ++ b', ?_, ZaQ (ZaQ ha (Zdw hρ c.args)) hb⟩
   simp [execOp, ho, resolve, hx, hx', Deferred.ofValue, invoke, Result.andThen, Sem.run]
  ·cases h
 ·cases h
theorem Zih {ι : Ren} {ρ ρ' : Operand → Value} {o : Oper} {c : Call} {f : FuncId} {args : Array Value} (hρ : ∀ x, VR ι (ρ x) (ρ' x)) (ho : o.op = .call c) (h : Zhp P ρ c = some (f, args)) (w : World) :
  ∃ args', (execOp ρ' o).run P w = (callFunc f args').run P w ∧ VRs ι args args' := by
 unfold Zhp at h
 split at h
 ·rename_i r name hc
  split at h
  ·rename_i t v hv
   obtain ⟨_, h⟩ := Zh h
   split at h
   ·rename_i g x hm
    obtain ⟨hx, h⟩ := Zh h
    injection h with h
    injection h with h1 h2
    subst h1 h2
    have hr : ρ' r = .iface t v := by
     have hv' := hv ▸ hρ r
     generalize ρ' r = x' at hv'
     cases hv' with
     | atom h => rfl
    refine ⟨#[x] ++ c.args.map ρ', ?_, ZaQ ⟨rfl, fun i y z hy hz => by
     rw [hy] at hz
     injection hz with hz
     subst hz
     rcases i with _ | i
     ·simp at hy; subst hy; exact VR.of_free1 hx
     ·simp at hy⟩ (Zdw hρ c.args)⟩
    have hm' := ZdF w hm
    have e0 : (#[Value.iface t v] ++ Array.map ρ' c.args)[0]? = some (Value.iface t v) := by
     rw [Array.getElem?_append_left (by simp)]; rfl
    have e2 : (#[Value.iface t v] ++ Array.map ρ' c.args).extract 1 (#[Value.iface t v] ++ Array.map ρ' c.args).size = Array.map ρ' c.args := by
     apply Array.ext'
     simp [Array.toList_extract]
     rw [List.take_of_length_le (by simp)]
    simp only [execOp, ho, resolve, hc, hr, Sem.run_bind, Sem.run_pure, Result.andThen_ok, invoke, e0, callMethod, program, Sem.run, hm', e2]
   ·cases h
  ·cases h
 ·exact ZfK hρ ho h w
theorem ZdX {ι : Ren} {s s' : St} {w : World} {v : Value} {o : Oper} {a : Act} {K : Act → World → Prop} {Q : Exit → Act → World → Prop} (h : Res P ((execOp a.eval o).run P w) s ι w v s')
  (hK : ∀ v' w' ι', Step P ι s.h.get w ι' s'.h.get w' → Dom ι ι' s.n s'.n → VR ι' v v' → K (a.put o.dst v') w') : o.wp P a w K Q := by
 obtain ⟨nx, w', ι', v', hr, hv, h1, h2, h3⟩ := h
 unfold Oper.wp
 try rw [hr]
 rcases hv with rfl | ⟨rfl, rfl⟩
 ·exact hK v' w' ι' h1 h2 h3
 ·exact hK undef w' ι' h1 h2 h3
theorem Zcg {ι : Ren} {nt : Nat} {args args' : Array Value} (h : VRs ι args args') (hs : args.size ≤ nt) : TR ι nt [] (Zbc 0 args.toList .nil) { tmps := args' ++ Array.replicate (nt - args'.size) undef, defers := [] } := by
 have key : ∀ (l : List Value) (i : Nat) (T : Tr Value) (t : Nat), (Zbc i l T).get t = if i ≤ t ∧ t < i + l.length then l[t - i]? else T.get t := by
  intro l
  induction l with
  | nil => intro i T t; simp only [Zbc]; rw [if_neg (by rintro ⟨h1, h2⟩; simp only [List.length_nil] at h2; omega)]
  | cons v l ih =>
   intro i T t
   simp only [Zbc]
   rw [ih, Tr.get_set]
   by_cases h1 : t = i
   ·subst h1
    rw [if_neg (by omega), Zl, if_pos (by simp)]
    simp
   ·rw [Zg h1]
    by_cases h2 : i + 1 ≤ t ∧ t < i + 1 + l.length
    ·rw [if_pos h2, if_pos (by simp; omega)]
     have : t - i = (t - (i + 1)) + 1 := by omega
     rw [this, List.getElem?_cons_succ]
    ·rw [if_neg h2, if_neg (by simp; omega)]
 refine ⟨by simp [← h.1, hs], rfl, fun t => ?_⟩
 rw [key]
 by_cases ht : t < args.size
 ·have ht' : t < args'.size := by rw [← h.1]; exact ht
  rw [if_pos (by simp [ht])]
  have e1 : args.toList[t - 0]? = some args[t] := by simp [ht]
  rw [e1, Array.getD_eq_getD_getElem?, Array.getElem?_append_left ht', Array.getElem?_eq_getElem ht']
  exact h.2 t _ _ (Array.getElem?_eq_getElem ht) (Array.getElem?_eq_getElem ht')
 ·rw [if_neg (by simp; omega)]
  have ht' : args'.size ≤ t := by rw [← h.1]; omega
  rw [Array.getD_eq_getD_getElem?, Array.getElem?_append_right ht']
  have : (Array.replicate (nt - args'.size) undef)[t - args'.size]?.getD undef = undef := by
   rw [Array.getElem?_replicate]
   split <;> rfl
  rw [this]
  exact VR.undef'

theorem Zeh {c : Code} {Q Q' : Exit → Act → World → Prop} (hq : ∀ e a w, Q e a w → Q' e a w) : ∀ (n : Nat) (a : Act) (w : World), Code.rounds P c Q n a w → Code.rounds P c Q' n a w
 | 0, _, _, h => h
 | n + 1, a, w, h => by
  rw [rounds_succ] at h ⊢
  refine wp_mono h ?_
  intro e a1 w1 h1
  cases e with
  | normal => exact Zeh hq n a1 w1 h1
  | _ => exact hq _ _ _ h1
theorem Step.below {ι : Ren} {h : AH} {w w' : World} (e : Emb P ι h w) (hb : Below w.heap.size w w') : Step P ι h w ι h w' :=
 ⟨fun _ _ h => h, ⟨fun k c t q hk => by
   obtain ⟨b, q1, hz⟩ := e.obj k c t q hk
   exact ⟨b, q1, hz.imp id fun ⟨q0, C, q2, q3⟩ => ⟨q0, C, q2.on (hb.block b.1 (e.lt k b q1)), q3⟩⟩, fun k O hk => by
   obtain ⟨b, q1, q2⟩ := e.ro k O hk
   exact ⟨b, q1, q2.on (hb.block b.1 (e.lt k b q1))⟩, e.inj, fun k b hk => Nat.lt_of_lt_of_le (e.lt k b hk) hb.size, e.marks (fun _ _ h => h) (fun b hlt _ => hb.block b hlt) (fun _ _ _ _ h => h) (fun k d hk hd => .inr ⟨k, d, hk, hd, rfl⟩), e.tb⟩,
  hb.os, hb.tape, hb.output, hb.size, fun b hlt _ => hb.block b hlt, fun k b h1 h2 _ => (by rw [h1] at h2; cases h2), fun _ _ h1 _ => h1, fun _ _ h1 _ => h1⟩
theorem Zav (F : Fit P ext) : ∀ fu : Nat,
  (∀ nt c T s e T' s', Z8 P ext nt fu c T s = some (e, T', s') → (∀ p ∈ s'.ob, p.1 = p.2) → ∀ ι D a w, TR ι nt D T a → Emb P ι s.h.get w → Fresh ι s.n s'.n → c.wp P (ZbG P ι s w nt D e T' s') a w) ∧
  (∀ nt ops l T s T' s', Zc4 P ext nt fu ops l T s = some (T', s') → (∀ p ∈ s'.ob, p.1 = p.2) → ∀ ι D a w (Q : Exit → Act → World → Prop), TR ι nt D T a → Emb P ι s.h.get w → Fresh ι s.n s'.n →
   (∀ ι' a' w', Step P ι s.h.get w ι' s'.h.get w' → Dom ι ι' s.n s'.n → TR ι' nt D T' a' → Q .normal a' w') → wpList P ops Q l a w) ∧
  SOp P ext fu ∧
  (∀ f args s v s', Zba P ext fu f args s = some (v, s') → (∀ p ∈ s'.ob, p.1 = p.2) → ∀ ι w args', VRs ι args args' → Emb P ι s.h.get w → Fresh ι s.n s'.n → Calls P f args' w (ZeI P ι s w v s')) ∧
  (∀ nt c T s e T' s', Z8 P ext nt fu (.loop c) T s = some (e, T', s') → (∀ p ∈ s'.ob, p.1 = p.2) → ∀ ι D a w, TR ι nt D T a → Emb P ι s.h.get w → Fresh ι s.n s'.n → Code.rounds P c (ZbG P ι s w nt D e T' s') fu a w) := by
 intro fu
 induction fu using Nat.strongRecOn with
 | _ fu ihs =>
 cases fu with
 | zero => exact ⟨fun _ _ _ _ _ _ _ h => by simp [Z8] at h, fun _ _ _ _ _ _ _ h => by simp [Zc4, St.keep_eq] at h, fun _ _ _ _ _ _ h => by simp [Zci] at h, fun _ _ _ _ _ h => by simp [Zba] at h, fun _ _ _ _ _ _ _ h => by simp [Z8] at h⟩
 | succ fu =>
  obtain ⟨ihC, ihO, ihP, ihF, ihL⟩ := ihs fu (Nat.lt_succ_self _)
  obtain ⟨upC, upO, upP, upF, upD, upE⟩ := Zal (P := P) (ext := ext) (fun f g hg => (F.hp f g hg).up) fu
  have loops : ∀ nt c T s e T' s', Z8 P ext nt (fu + 1) (.loop c) T s = some (e, T', s') → (∀ p ∈ s'.ob, p.1 = p.2) → ∀ ι D a w, TR ι nt D T a → Emb P ι s.h.get w → Fresh ι s.n s'.n → Code.rounds P c (ZbG P ι s w nt D e T' s') (fu + 1) a w := by
   intro nt x T s e T' s' h ho ι D a w hT he hf
   simp only [Z8] at h
   rw [rounds_succ]
   split at h
   ·rename_i T1 s1 h1
    have u1 := upC _ _ _ _ _ _ _ h1
    have u2 := upC _ _ _ _ _ _ _ h
    refine wp_mono (ihC nt x T s .normal T1 s1 h1 (ZL u2.ob ho) ι D a w hT he (hf.mono (Nat.le_refl _) u2.n)) ?_
    rintro ex a1 w1 ⟨rfl, ι1, g1, g2, g3⟩
    refine Zeh ?_ fu a1 w1 (ihL nt x T1 s1 e T' s' h ho ι1 D a1 w1 g3 g1.emb (hf.after g2 u1.n))
    rintro ex2 a2 w2 ⟨rfl, ι2, k1, k2, k3⟩
    exact ⟨rfl, ι2, g1.trans k1, g2.trans k2 u1.n u2.n, k3⟩
   ·rename_i i T1 s1 h1
    injection h with h; simp only [Prod.mk.injEq] at h; obtain ⟨rfl, rfl, rfl⟩ := h
    refine wp_mono (ihC nt x T s _ _ _ h1 ho ι D a w hT he hf) ?_
    rintro ex a1 w1 ⟨rfl, hq⟩
    exact ⟨rfl, hq⟩
   ·rename_i T1 s1 h1
    injection h with h; simp only [Prod.mk.injEq] at h; obtain ⟨rfl, rfl, rfl⟩ := h
    refine wp_mono (ihC nt x T s _ _ _ h1 ho ι D a w hT he hf) ?_
    rintro ex a1 w1 ⟨rfl, hq⟩
    exact ⟨rfl, hq⟩
   ·cases h
  refine ⟨fun nt c T s e T' s' h ho ι D a w hT he hf => ?_, fun nt ops l T s T' s' h ho ι D a w Q hT he hf hQ => ?_, fun ρ ρ' o s v s' h ho ι w hρ he hf a K Q hex hK => ?_, fun f args s v s' h ho ι w args' ha he hf => ?_, loops⟩
  ·have base : ZbG P ι s w nt D .normal T s .normal a w ∧ ZbG P ι s w nt D .ret T s .ret a w ∧ ∀ i, ZbG P ι s w nt D (.exit i) T s (.exit i) a w :=
    ⟨⟨rfl, ι, Step.refl he, Dom.refl, hT⟩, ⟨rfl, ι, Step.refl he, Dom.refl, hT⟩, fun i => ⟨rfl, ι, Step.refl he, Dom.refl, hT⟩⟩
   -- one part, then the other
   have chain : ∀ {s1 : St} {T1 : Tr Value} {c2 : Code} {a1 : Act} {w1 : World} {ι1 : Ren}, Up s s1 → Up s1 s' → Step P ι s.h.get w ι1 s1.h.get w1 → Dom ι ι1 s.n s1.n → TR ι1 nt D T1 a1 → Z8 P ext nt fu c2 T1 s1 = some (e, T', s') →
     c2.wp P (ZbG P ι s w nt D e T' s') a1 w1 := fun {s1 T1 c2 a1 w1 ι1} u1 u2 h1 h2 h3 h4 => by
    refine wp_mono (ihC nt c2 T1 s1 e T' s' h4 ho ι1 D a1 w1 h3 h1.emb ((hf.mono (Nat.le_refl _) (Nat.le_refl _)).after h2 u1.n)) ?_
    rintro ex a2 w2 ⟨rfl, ι2, g1, g2, g3⟩
    exact ⟨rfl, ι2, (Step.two ⟨h1, h2⟩ ⟨g1, g2⟩ u1.n u2.n).1, (Step.two ⟨h1, h2⟩ ⟨g1, g2⟩ u1.n u2.n).2, g3⟩
   have h0 := h
   cases c <;> simp only [Z8] at h
   case skip => injection h with h; simp only [Prod.mk.injEq] at h; obtain ⟨rfl, rfl, rfl⟩ := h; exact wp_skip base.1
   case label l => injection h with h; simp only [Prod.mk.injEq] at h; obtain ⟨rfl, rfl, rfl⟩ := h; exact wp_label base.1
   case scope c =>
    refine wp_scope_straight (wp_mono (ihC nt c T s e T' s' h ho ι D a w hT he hf) ?_)
    rintro ex a1 w1 ⟨rfl, hq⟩
    cases e <;> exact ⟨rfl, hq⟩
   case ret => injection h with h; simp only [Prod.mk.injEq] at h; obtain ⟨rfl, rfl, rfl⟩ := h; exact wp_ret base.2.1
   case exit id => injection h with h; simp only [Prod.mk.injEq] at h; obtain ⟨rfl, rfl, rfl⟩ := h; exact wp_exit (base.2.2 id)
   case seq x y =>
    split at h
    ·rename_i T1 s1 h1
     have u1 := upC _ _ _ _ _ _ _ h1
     have u2 := upC _ _ _ _ _ _ _ h
     refine wp_seq (wp_mono (ihC nt x T s .normal T1 s1 h1 (ZL u2.ob ho) ι D a w hT he (hf.mono (Nat.le_refl _) u2.n)) ?_)
     rintro ex a1 w1 ⟨rfl, ι1, g1, g2, g3⟩
     exact chain u1 u2 g1 g2 g3 h
    ·rename_i i T1 s1 h1
     injection h with h; simp only [Prod.mk.injEq] at h; obtain ⟨rfl, rfl, rfl⟩ := h
     refine wp_seq (wp_mono (ihC nt x T s _ _ _ h1 ho ι D a w hT he hf) ?_)
     rintro ex a1 w1 ⟨rfl, hq⟩
     exact ⟨rfl, hq⟩
    ·rename_i T1 s1 h1
     injection h with h; simp only [Prod.mk.injEq] at h; obtain ⟨rfl, rfl, rfl⟩ := h
     refine wp_seq (wp_mono (ihC nt x T s _ _ _ h1 ho ι D a w hT he hf) ?_)
     rintro ex a1 w1 ⟨rfl, hq⟩
     exact ⟨rfl, hq⟩
    ·cases h
   case cond x y z =>
    split at h
    ·rename_i t ht
     have hx : a.eval x = .bool t := ZbF ((ht ▸ hT.opnd x : VR ι (.bool t) (Zaf a x)).bool_inv)
     split at h
     ·exact wp_cond_true hx (ihC nt y T s e T' s' h ho ι D a w hT he hf)
     ·exact wp_cond_false hx (ihC nt z T s e T' s' h ho ι D a w hT he hf)
    ·cases h
   case block id x =>
    split at h
    ·rename_i i T1 s1 h1
     cases hb : Nat.beq i id with
     | true =>
      rw [hb] at h
      injection h with h; simp only [Prod.mk.injEq] at h; obtain ⟨rfl, rfl, rfl⟩ := h
      refine wp_block (wp_mono (ihC nt x T s _ _ _ h1 ho ι D a w hT he hf) ?_)
      rintro ex a1 w1 ⟨rfl, hq⟩
      show if i = id then _ else _
      rw [if_pos (Nat.eq_of_beq_eq_true hb)]
      exact ⟨rfl, hq⟩
     | false =>
      rw [hb] at h
      injection h with h; simp only [Prod.mk.injEq] at h; obtain ⟨rfl, rfl, rfl⟩ := h
      refine wp_block (wp_mono (ihC nt x T s _ _ _ h1 ho ι D a w hT he hf) ?_)
      rintro ex a1 w1 ⟨rfl, hq⟩
      show if i = id then _ else _
      rw [if_neg (fun e => by rw [ZcE e] at hb; cases hb)]
      exact ⟨rfl, hq⟩
    ·rename_i T1 s1 h1
     injection h with h; simp only [Prod.mk.injEq] at h; obtain ⟨rfl, rfl, rfl⟩ := h
     refine wp_block (wp_mono (ihC nt x T s _ _ _ h1 ho ι D a w hT he hf) ?_)
     rintro ex a1 w1 ⟨rfl, hq⟩
     exact ⟨rfl, hq⟩
    ·rename_i T1 s1 h1
     injection h with h; simp only [Prod.mk.injEq] at h; obtain ⟨rfl, rfl, rfl⟩ := h
     refine wp_block (wp_mono (ihC nt x T s _ _ _ h1 ho ι D a w hT he hf) ?_)
     rintro ex a1 w1 ⟨rfl, hq⟩
     exact ⟨rfl, hq⟩
    ·cases h
   case loop x =>
    exact wp_loop_rounds (fu + 1) (loops nt x T s e T' s' h0 ho ι D a w hT he hf)
   case region id ops draw =>
    cases draw with
    | true =>
     simp only [cond_true] at h
     split at h
     ·rename_i es T1 s1 h1
      injection h with h; simp only [Prod.mk.injEq] at h; obtain ⟨rfl, rfl, rfl⟩ := h
      exact ZkC F (fun fu' hfu => (ihs fu' (by omega)).2.2.1) h1 ho hT he hf fun ι' a' w' g1 g2 g3 => ⟨rfl, ι', g1, g2, g3⟩
     ·cases h
    | false =>
    simp only [cond_false] at h
    split at h
    ·rename_i T1 s1 h1
     injection h with h; simp only [Prod.mk.injEq] at h; obtain ⟨rfl, rfl, rfl⟩ := h
     refine wp_region_list (ihO nt ops ops.toList T s T1 s1 h1 ho ι D a w _ hT he hf fun ι' a' w' g1 g2 g3 => ⟨rfl, ι', g1, g2, g3⟩)
    ·cases h
   all_goals cases h
  ·cases l with
   | nil =>
    simp only [Zc4, St.keep_eq] at h
    injection h with h; simp only [Prod.mk.injEq] at h; obtain ⟨rfl, rfl⟩ := h
    exact hQ ι a w (Step.refl he) Dom.refl hT
   | cons o l =>
    simp only [Zc4, St.keep_eq] at h
    obtain ⟨hg, h⟩ := Zh h
    simp only [Bool.and_eq_true] at hg
    unfold wpList
    split at h
    ·rename_i s1 hw
     split at h
     ·rename_i v s2 hv
      have u1 := Zaa hw
      have u2 := upP _ _ _ _ _ hv
      have u3 := upO _ _ _ _ _ _ _ h
      obtain ⟨hwant, e2, e3⟩ := ZaG (fun t _ => hT.2.2 t) hw
      rw [if_pos hwant]
      refine .inl (ihP (opnd T) (Zaf a) o s1 v s2 hv (ZL u3.ob ho) ι w hT.opnd (e2 ▸ he) (e3 ▸ (hf.mono (Nat.le_refl _) u3.n)) a _ Q (Zb5 (ZdH hv) hg.2).symm fun v' w' ι' g1 g2 g3 => ?_)
      rw [e2] at g1
      rw [e3] at g2
      have hle : s.n ≤ s2.n := by rw [← e3]; exact u2.n
      exact ihO nt ops l (ZaM T o.dst v) s2 T' s' h ho ι' D _ w' Q ((hT.on g1.ext).put hg.1 g3) g1.emb (hf.after g2 hle) fun ι2 a2 w2 k1 k2 k3 =>
       hQ ι2 a2 w2 (g1.trans k1) (g2.trans k2 hle u3.n) k3
     ·cases h
    ·rename_i s1 hw
     have u1 := Zaa hw
     have u3 := upO _ _ _ _ _ _ _ h
     obtain ⟨hwant, e2, e3⟩ := ZaG (fun t _ => hT.2.2 t) hw
     rw [if_neg (by rw [hwant]; simp)]
     refine ihO nt ops l (ZaM T o.dst undef) s1 T' s' h ho ι D _ w Q (hT.put hg.1 VR.undef') (e2 ▸ he) (e3 ▸ hf) fun ι2 a2 w2 k1 k2 k3 => hQ ι2 a2 w2 (e2 ▸ k1) (e3 ▸ k2) k3
    ·cases h
  ·simp only [Zci] at h
   split at h
   ·rename_i c hc
    obtain ⟨hop, _⟩ := Zgq hc
    split at h
    ·rename_i f args hcal
     obtain ⟨args', hrun, hargs⟩ := Zih (P := P) hρ hop hcal w
     rw [← hex] at hrun
     split at h
     ·rename_i kk e hx
      split at h
      ·rename_i z c1 s1 hw
       obtain ⟨e1, e2, _⟩ := Z3 hw
       obtain ⟨s2, s3, h4, e3, e4, e5, e6, ho3⟩ := ZkB ho h rfl
       exact ZdX (((hrun ▸ ZfF F hx hargs (s := s2) (by rw [e3, e1]; exact he) ho3 h4).heap (e3.trans e1).symm (e4.trans e2).symm).behind e5 e6) hK
      ·cases h
      ·rename_i s1 hw
       obtain ⟨e1, e2, _⟩ := Z3 hw
       exact ZdX ((hrun ▸ ZfF F hx hargs (s := s1) (e1 ▸ he) ho h).heap e1.symm e2.symm) hK
     ·rename_i n hx
      exact ZdX (hrun ▸ ZkA F hx hargs he h) hK
     ·rename_i g hx
      have hd := F.hp f g hx
      unfold Oper.wp
      rcases hd.does args s v s' h ho ι w args' hargs he hf with ⟨⟨fn, c', hfn, hb⟩, hcalls⟩ | ⟨v1, w1, hr, v', ι', hv, g1, g2, g3⟩
      ·rw [hrun, Zan hfn (F.go f fn hfn) hb, Oper.upon_enter]
       refine hcalls.mono ?_
       rintro e2 w2 ⟨v', ι', rfl, g1, g2, g3⟩
       exact hK v' w2 ι' g1 g2 g3
      ·injection hv with hv
       subst hv
       rw [hrun, hr, Oper.upon_value]
       exact hK v1 w1 ι' g1 g2 g3
     ·rename_i S hx
      split at h
      ·rename_i pre u post dn s1 hw
       obtain ⟨e1, e2, _⟩ := Z3 hw
       obtain ⟨⟨fn, c', hfn, hb⟩, hS⟩ := F.tc f S hx
       unfold Oper.wp
       rw [hrun, Zan hfn (F.go f fn hfn) hb, Oper.upon_enter]
       refine (Zk9 hS h ho hargs (e1 ▸ he) (e2 ▸ hf)).mono ?_
       rintro e2' w2 ⟨v', ι', rfl, g1, g2, g3⟩
       exact hK v' w2 ι' (e1 ▸ g1) (e2 ▸ g2) g3
      ·cases h
     ·rename_i g hx
      unfold Zkq at h
      obtain ⟨hfree, h⟩ := Zh h
      split at h
      ·rename_i v1 hg
       obtain ⟨hfv, h⟩ := Zh h
       injection h with h; injection h with q1 q2; subst q1 q2
       have hae : args' = args := Zgu hargs.1 fun i x y hx1 hy1 => (hargs.2 i x y hx1 hy1).eq_of_free (ZR hfree i x hx1)
       subst hae
       obtain ⟨⟨fn, c', hfn, hb⟩, hcall⟩ := F.fn f g hx
       unfold Oper.wp
       rw [hrun, Zan hfn (F.go f fn hfn) hb, Oper.upon_enter]
       refine (hcall args' v1 hfree hg w he.tabw).mono ?_
       rintro e2 w2 ⟨rfl, hbel⟩
       exact hK v1 w2 ι (Step.below he hbel) Dom.refl (VR.of_free hfv)
      ·cases h
     ·have hcalls := ihF f args s v s' h ho ι w args' hargs he hf
      cases fu with
      | zero => simp [Zba] at h
      | succ fu' =>
       have h' := h
       simp only [Zba] at h'
       split at h'
       ·rename_i fn hfn
        split at h'
        ·rename_i c' hb
         unfold Oper.wp
         rw [hrun, Zan hfn (F.go f fn hfn) hb, Oper.upon_enter]
         refine hcalls.mono ?_
         rintro e2 w2 ⟨v', ι', rfl, g1, g2, g3⟩
         exact hK v' w2 ι' g1 g2 g3
        ·cases h'
       ·cases h'
    ·cases h
   ·split at h
    ·rename_i v1 s1 h1
     injection h with h
     obtain ⟨e1, e2, e3⟩ := Zm5 h ho
     subst e1
     rw [e2, e3] at hK
     rw [e3] at hf
     have := Zlg hρ he hf (ZL (ZjW h).ob ho) h1
     rw [← hex] at this
     exact ZdX this hK
    ·cases h
  ·simp only [Zba] at h
   split at h
   ·rename_i fn hfn
    split at h
    ·rename_i c hb
     obtain ⟨hsz, h⟩ := Zh h
     have hle : args.size ≤ fn.ntmps := Nat.le_of_ble_eq_true hsz
     split at h
     ·cases h
     ·rename_i ex T1 s1 hne h1
      have hs : s' = s1 ∧ (match Zad P T1 s1 fn.results.toList with | some [v] => some v | some vs => some (.tuple vs.toArray) | none => none) = some v := by
       split at h
       ·rename_i hr; injection h with h; injection h with q1 q2; subst q1 q2; exact ⟨rfl, by first | rw [hr] | rfl⟩
       ·rename_i vs hn hr; injection h with h; injection h with q1 q2; subst q1 q2
        refine ⟨rfl, ?_⟩
        try rw [hr]
        rcases vs with _ | ⟨x, _ | ⟨y, vs⟩⟩
        ·rfl
        ·exact absurd rfl (hn x)
        ·rfl
       ·cases h
      obtain ⟨rfl, hres⟩ := hs
      refine calls_of_wp hfn hb (wp_mono (ihC fn.ntmps c _ s ex T1 s' h1 ho ι [] _ w (Zcg ha hle) he hf) ?_)
      rintro e2 a2 w2 ⟨rfl, ι2, g1, g2, g3⟩
      obtain ⟨v', hrun, hv⟩ := ZaD g3 g1.emb hres
      cases ex with
      | normal => exact ⟨g3.2.1, v', hrun, v', ι2, rfl, g1, g2, hv⟩
      | ret => exact ⟨g3.2.1, v', hrun, v', ι2, rfl, g1, g2, hv⟩
      | exit i => exact (hne i rfl).elim
     ·cases h
    ·cases h
   ·cases h

theorem ZmD {ι : Ren} : VRs ι ([] : List Value).toArray ([] : List Value).toArray := ⟨rfl, fun i x y hx => by simp at hx⟩
theorem Zmf {ι : Ren} {x y : Value} {l l' : List Value} (h : VR ι x y) (t : VRs ι l.toArray l'.toArray) : VRs ι (x :: l).toArray (y :: l').toArray := by
 refine ⟨by simpa using t.1, fun i u v hu hv => ?_⟩
 cases i with
 | zero => simp at hu hv; subst hu hv; exact h
 | succ i => exact t.2 i u v (by simpa using hu) (by simpa using hv)
theorem Zna (F : Fit P ext) {fu : Nat} {f : FuncId} {args args' : Array Value} {v : Value} {s' : St} {orc : Orc} (h : Zba P ext fu f args ⟨.nil, 0, [], orc, []⟩ = some (v, s')) (ho : ∀ p ∈ s'.ob, p.1 = p.2) (ha : VRs (fun _ => none) args args') (hv : ZaA v = true) (hn : s'.n ≤ far) (w : World) (ht : TabW w) :
  Calls P f args' w fun e w' => e = .returned v ∧ Below w.heap.size w w' := by
 have hF := (Zav (P := P) F fu).2.2.2.1 f args _ v s' h ho (ιMk w) w args' (ha.ext fun _ _ h => by cases h)
  (show Emb P (ιMk w) (Tr.nil : Tr AObj).get w from (show (Tr.nil : Tr AObj).get = fun _ => none from funext fun k => Tr.get_nil k) ▸ ZjX P ht) (Zme hn)
 refine hF.mono ?_
 rintro e w' ⟨v', ι', rfl, g1, g2, g3⟩
 have := g3.eq_of_free hv
 subst this
 exact ⟨rfl, g1.os, g1.tape, g1.output, g1.size, fun k hk => g1.frame k hk fun j c hj => by cases hj⟩
theorem VRs.of_free {ι : Ren} {args : Array Value} (ha : Zr ZaA args.toList = true) : VRs ι args args := ⟨rfl, fun i x y hx hy => by rw [hx] at hy; injection hy with hy; subst hy; exact VR.of_free (ZR ha i x hx)⟩
end
end Ev
end Go.Proofs.YtgjgilibjbodfaaGreat
