/- A region that draws its order, whose first operations only read (and make memory in calls), and whose last ones, in a forced order among themselves, make and write new memory: but these may come up early. -/
import Derived.Test.YtldlnclkdgfahaaGreatLib
import Derived.StillTail
import Derived.OrdersHeld
import Derived.WideBlind
namespace Go.Proofs.YtldlnclkdgfahaaGreat
open Go.RowKit

theorem Has.newAt {W : World} {cs : List Value} {t : TypeId} {b : Nat} (hb : W.heap.size = b) : Has (W.alloc (.cells cs.toArray t)) b cs := hb ▸ Has.new W cs t
section
variable {P : Program}

/-- A call has one result. 'f0': some function that hands back a temporary, and that start-up does not run. -/
theorem calls_unique {f : FuncId} {args : Array Value} {w : World} {v v' : Value} {R R' : World → Prop} {f0 : FuncId} {fn0 : Func} {t0 : Tmp}
    (hf0 : P.funcs[f0]? = some fn0) (hr0 : fn0.results = #[.tmp t0]) (hi0 : P.inits.idxOf? f0 = none)
    (h : Calls P f args w fun e w' => e = .returned v ∧ R w') (h' : Calls P f args w fun e w' => e = .returned v' ∧ R' w') : v = v' := by
  -- the caller is a frame that leaves at once, with what it was handed
  let c : Frame := { fn := f0, tmps := Array.replicate (t0 + 1) undef, todo := [.inRegion #[{ dst := some t0, op := .move (.const undef), type := 0, pos := "", after := #[], guard := none }] [0]], defers := [], mode := .returning, kind := .normal }
  have hc : ∀ (v : Value) (w : World), step P (lone (c.finish v) [] w) = .ended (.done v) w := fun v w => by
    refine step_leave_done (v := v) ⟨rfl, rfl, rfl, fn0, hf0, ?_⟩ hi0
    rw [results_tmp hr0]
    simp [c, Frame.finish]
  have go : ∀ {v : Value} {R : World → Prop}, (Calls P f args w fun e w' => e = .returned v ∧ R w') → ∃ n w', runN P n (lone (Frame.enter P f args .normal) [c] w) = .ended (.done v) w' := fun {v R} h => by
    obtain ⟨e, w', fr, ⟨rfl, _⟩, hs, _, hl⟩ := h [c]
    obtain ⟨n, hn⟩ := Steps.trans (show Steps P _ _ from hs) (.one (step_leave_returned hl))
    refine ⟨n + 1, w', ?_⟩
    rw [runN_add, hn]
    simp [runN, hc]
  obtain ⟨n, w1, h1⟩ := go h
  obtain ⟨n', w2, h2⟩ := go h'
  have := (WideBlind.runN_same' h1 h2).1
  injection this

/-- In every world of the class one value, and below it nothing turns. -/
def Calm (P : Program) (W : World) (o : Oper) (a : Act) (v : Value) : Prop :=
  ∀ w, Below W.heap.size W w → o.quietAt P a (fun w' => Below w.heap.size w w') w v

def YieldsC (P : Program) (ops : Array Oper) (W : World) (o : Oper) (v : Value) (a : Act) : Prop :=
  (Region.wanted o (yielded ops a.tmps) = true ∧ Calm P W o a v) ∨ (Region.wanted o (yielded ops a.tmps) = false ∧ v = undef)
theorem quietAt_unique {o : Oper} {a : Act} {w : World} {v v' : Value} {C C' : World → Prop} {f0 : FuncId} {fn0 : Func} {t0 : Tmp}
    (hf0 : P.funcs[f0]? = some fn0) (hr0 : fn0.results = #[.tmp t0]) (hi0 : P.inits.idxOf? f0 = none)
    (h : o.quietAt P a C w v) (h' : o.quietAt P a C' w v') : v = v' := by
  unfold Oper.quietAt at h h'
  generalize (execOp a.eval o).run P w = r at *
  cases r with
  | ok n w' =>
    cases n <;> simp only [Oper.quietUpon] at h h'
    case value u => exact h.2.symm.trans h'.2
    case skip => exact h.2.trans h'.2.symm
    case enter f args => exact calls_unique hf0 hr0 hi0 h.2 h'.2
  | halt x w' => simp only [Oper.quietUpon] at h

/-- The operations of a list, one behind the other: each calm. -/
def wpCalm (P : Program) (ops : Array Oper) (W : World) (Q : Act → Prop) : List Oper → Act → Prop
  | [], a => Q a
  | o :: rest, a => ∃ v, YieldsC P ops W o v a ∧ wpCalm P ops W Q rest (a.put o.dst v)

theorem ext_trans {a b c : World} (h : Below a.heap.size a b) (k : Below b.heap.size b c) : Below a.heap.size a c := h.trans (k.mono h.size)

theorem calm_of_quiet {ops : Array Oper} {W : World} {Q : World → Act → Prop} {f0 : FuncId} {fn0 : Func} {t0 : Tmp}
    (hf0 : P.funcs[f0]? = some fn0) (hr0 : fn0.results = #[.tmp t0]) (hi0 : P.inits.idxOf? f0 = none) : ∀ (l : List Oper) (a : Act),
    (∀ W', Below W.heap.size W W' → wpQuiet P ops (fun w' => Below W'.heap.size W' w') (Q W') l a) → wpCalm P ops W (fun a' => ∀ W', Below W.heap.size W W' → Q W' a') l a
  | [], a, h => h
  | o :: rest, a, h => by
    by_cases hw : Region.wanted o (yielded ops a.tmps) = true
    · have h' : ∀ W', Below W.heap.size W W' → ∃ v, (∀ w, Below W'.heap.size W' w → o.quietAt P a (fun w' => Below W'.heap.size W' w') w v) ∧ wpQuiet P ops (fun w' => Below W'.heap.size W' w') (Q W') rest (a.put o.dst v) := fun W' hW' => by
        have := h W' hW'
        unfold wpQuiet at this
        rwa [if_pos hw] at this
      obtain ⟨v, hv, _⟩ := h' W (Below.refl _ _)
      refine ⟨v, .inl ⟨hw, fun w hb => ?_⟩, calm_of_quiet hf0 hr0 hi0 rest _ fun W' hW' => ?_⟩
      · obtain ⟨u, hu, _⟩ := h' w hb
        rw [quietAt_unique hf0 hr0 hi0 (hv w hb) (hu w (Below.refl _ _))]
        exact hu w (Below.refl _ _)
      · obtain ⟨u, hu, hr⟩ := h' W' hW'
        rw [quietAt_unique hf0 hr0 hi0 (hv W' hW') (hu W' (Below.refl _ _))]
        exact hr
    · refine ⟨undef, .inr ⟨by simpa using hw, rfl⟩, calm_of_quiet hf0 hr0 hi0 rest _ fun W' hW' => ?_⟩
      have := h W' hW'
      unfold wpQuiet at this
      rwa [if_neg hw] at this

/-- What an operation that has come up waits for has come up, too. -/
def Closed (md : Region.Mode) (ops : Array Oper) (listed : Array Bool) : Prop :=
  ∀ j oj, ops[j]? = some oj → listed.getD j false = true → ∀ e ∈ oj.after, Region.binds md e = true → listed.getD e.on false = true
theorem Closed.set_ {md : Region.Mode} {ops : Array Oper} {listed : Array Bool} {i : Nat} (h : Closed md ops listed) (hi : i ∈ Region.ready md ops listed) : Closed md ops (listed.setIfInBounds i true) := by
  obtain ⟨_, oi, hoi, hall⟩ := mem_ready.1 hi
  intro j oj hj hl e he hb
  by_cases hij : i = j
  · subst hij
    have : oj = oi := Option.some.inj (hj.symm.trans hoi)
    subst this
    exact getD_set_true (hall e he hb)
  · rw [getD_set_ne false hij] at hl
    exact getD_set_true (h j oj hj hl e he hb)
/-- One waits for another one, by some steps. -/
def waitsT (md : Region.Mode) (ops : Array Oper) : Nat → Nat → Nat → Bool
  | 0, _, _ => false
  | f + 1, t, i => Region.waitsFor md ops t i || (List.range ops.size).any fun k => Region.waitsFor md ops t k && waitsT md ops f k i
theorem Closed.waits {md : Region.Mode} {ops : Array Oper} {listed : Array Bool} (h : Closed md ops listed) : ∀ (f t i : Nat), listed.getD t false = true → waitsT md ops f t i = true → listed.getD i false = true
  | 0, _, _, _, hw => by cases hw
  | f + 1, t, i, ht, hw => by
    simp only [waitsT, Bool.or_eq_true, List.any_eq_true, Bool.and_eq_true] at hw
    rcases hw with hw | ⟨k, _, hw, hr⟩
    · obtain ⟨o, ho, e, he, hb, rfl⟩ := Region.waitsFor_spec hw
      exact h t o ho ht e he hb
    · obtain ⟨o, ho, e, he, hb, rfl⟩ := Region.waitsFor_spec hw
      exact h.waits f e.on i (h t o ho ht e he hb) hr

/-- Whatever order is picked from here on; between any two operations the world may grow. -/
def wpAnyE (P : Program) (md : Region.Mode) (ops : Array Oper) (W : World) (m : Nat) (Q : Exit → Act → World → Prop) : Nat → Array Bool → Act → World → Prop
  | 0, listed, a, w => Region.ready md ops listed = [] ∧ Q .normal a w
  | f + 1, listed, a, w => (Region.ready md ops listed = [] → Q .normal a w) ∧
    ∀ i ∈ Region.ready md ops listed, wpOp P ops Q i (fun a' w' => (i < m → Below W.heap.size W w') ∧ ∀ w'', Below w'.heap.size w' w'' → wpAnyE P md ops W m Q f (listed.setIfInBounds i true) a' w'') a w

theorem wpAny_of_E {md : Region.Mode} {ops : Array Oper} {W : World} {m : Nat} {Q : Exit → Act → World → Prop} : ∀ (f : Nat) (listed : Array Bool) (a : Act) (w : World), wpAnyE P md ops W m Q f listed a w → wpAny P md ops Q f listed a w
  | 0, _, _, _, h => h
  | f + 1, _, _, _, h => ⟨h.1, fun i hi => wpOp_mono (fun a' w' h' => wpAny_of_E f _ a' w' (h'.2 w' (Below.refl _ _))) (h.2 i hi)⟩

theorem YieldsC.of_same {ops : Array Oper} {W : World} {o : Oper} {v : Value} {a a' : Act} (hy : YieldsC P ops W o v a) (he : execOp a'.eval o = execOp a.eval o)
    (hw : Region.wanted o (yielded ops a'.tmps) = Region.wanted o (yielded ops a.tmps)) : YieldsC P ops W o v a' := by
  unfold YieldsC Calm Oper.quietAt at *
  rw [he, hw]
  exact hy

/-- It comes up. -/
theorem YieldsC.wpOp {ops : Array Oper} {W : World} {i : Nat} {o : Oper} {v : Value} {a : Act} {w : World} (hi : ops[i]? = some o) (hy : YieldsC P ops W o v a) (hb : Below W.heap.size W w)
    {K : Act → World → Prop} {Q : Exit → Act → World → Prop} (h : ∀ w', Below w.heap.size w w' → K (a.put o.dst v) w') : wpOp P ops Q i K a w := by
  unfold Go.wpOp
  simp only [hi]
  rcases hy with ⟨hw, hv⟩ | ⟨hw, rfl⟩
  · simp only [hw, if_true]
    exact .inl (Oper.wp_of_quiet (C := fun w' => Below w.heap.size w w') (K := fun a' => a' = a.put o.dst v) (Below.refl _ _) (fun a' w' hw' ha => by subst ha; exact h w' hw')
      ⟨v, fun w1 hw1 => by
        have h1 := hv w1 (ext_trans hb hw1)
        unfold Oper.quietAt at h1 ⊢
        generalize (execOp a.eval o).run P w1 = r at *
        cases r with
        | ok n w' =>
          cases n <;> simp only [Oper.quietUpon] at h1 ⊢
          case value u => exact h1
          case skip => exact h1
          case enter f args => exact ⟨h1.1, h1.2.mono fun e w2 ⟨he, hb2⟩ => ⟨he, ext_trans hw1 hb2⟩⟩
        | halt x w' => simp only [Oper.quietUpon] at h1, rfl⟩)
  · simp only [hw, Bool.false_eq_true, if_false]
    exact h w (Below.refl _ _)

/-- An operation apart from it: whether its value is there already makes no difference. -/
theorem wpOp_putC {ops : Array Oper} {W : World} {j : Nat} {oi oj : Oper} {v : Value} {Q : Exit → Act → World → Prop} (hj : ops[j]? = some oj) (hap : oi.apart ops oj = true)
    (hsi : ∀ cs b, oi.op ≠ .select cs b) (hsj : ∀ cs b, oj.op ≠ .select cs b)
    (hQ : ∀ c a w, Q (.panic c) (a.put oi.dst v) w → Q (.panic c) a w) {K : Act → World → Prop} {a : Act} {w : World}
    (hy : YieldsC P ops W oi v a) (h : wpOp P ops Q j K (a.put oi.dst v) w) :
    wpOp P ops Q j (fun a' w' => YieldsC P ops W oi v a' ∧ K (a'.put oi.dst v) w') a w := by
  obtain ⟨h1, h2, h3⟩ := Oper.apart_spec hap
  have keep : ∀ (a : Act), YieldsC P ops W oi v a → ∀ u, YieldsC P ops W oi v (a.put oj.dst u) := fun a hy u =>
    hy.of_same (execOp_put oi hsi a oj.dst u h3) (wanted_put oi a oj.dst u h3)
  have keepD : ∀ d, YieldsC P ops W oi v { a with defers := d :: a.defers } := fun d => hy.of_same rfl rfl
  unfold Go.wpOp at *
  simp only [hj] at *
  rw [wanted_put oj a oi.dst v h1] at h
  by_cases hw : Region.wanted oj (yielded ops a.tmps) = true
  · rw [if_pos hw] at h ⊢
    rcases h with h | ⟨hasks, hlets⟩
    · refine .inl ?_
      unfold Oper.wp at *
      rw [execOp_put oj hsj a oi.dst v h1] at h
      generalize (execOp a.eval oj).run P w = r at *
      cases r with
      | ok n w' =>
        cases n <;> simp only [Oper.upon] at h ⊢
        case value u => exact ⟨keep a hy u, by rw [← Act.put_comm a v u h2]; exact h⟩
        case skip => exact ⟨keep a hy _, by rw [← Act.put_comm a v undef h2]; exact h⟩
        case defer d => exact ⟨keep _ (keepD d) _, by rw [← Act.put_comm _ v undef h2, ← Act.put_defers]; exact h⟩
        case enter f args =>
          refine Calls.mono h fun e w'' he => ?_
          cases e with
          | returned u => exact ⟨keep a hy u, by rw [← Act.put_comm a v u h2]; exact he⟩
          | panicked c => exact hQ _ _ _ he
          | outgrown => exact he
        case row row args => exact Rows.mono h fun u w'' he => ⟨keep a hy u, by rw [← Act.put_comm a v u h2]; exact he⟩
      | halt x w' =>
        cases x <;> simp only [Oper.upon] at h ⊢
        case panic u => exact hQ _ _ _ h
    · exact .inr ⟨by unfold Oper.asks at *; rw [execOp_put oj hsj a oi.dst v h1] at hasks; exact hasks, hlets⟩
  · rw [if_neg hw] at h ⊢
    exact ⟨keep a hy _, by rw [← Act.put_comm a v undef h2]; exact h⟩

theorem wpAnyE_first {md : Region.Mode} {ops : Array Oper} {W : World} {m : Nat} {Q : Exit → Act → World → Prop} {i : Nat} {oi : Oper} {v : Value} (hi : ops[i]? = some oi)
    (hm : ∀ (listed : Array Bool) j, Closed md ops listed → j ∈ Region.ready md ops listed → listed.getD i true = false → j < m)
    (hsel : ∀ (j : Nat) (o : Oper) cs b, ops[j]? = some o → o.op ≠ .select cs b) (hQ : ∀ c a w, Q (.panic c) (a.put oi.dst v) w → Q (.panic c) a w) :
    ∀ (f : Nat) (listed : Array Bool) (a : Act) (w : World), Closed md ops listed →
      (∀ j oj, ops[j]? = some oj → j ≠ i → listed.getD j true = false → (∀ e ∈ oj.after, Region.binds md e = true → e.on ≠ i) → oi.apart ops oj = true) →
      i ∈ Region.ready md ops listed → YieldsC P ops W oi v a → Below W.heap.size W w →
      (∀ w'', Below w.heap.size w w'' → wpAnyE P md ops W m Q f (listed.setIfInBounds i true) (a.put oi.dst v) w'') → ∀ w'', Below w.heap.size w w'' → wpAnyE P md ops W m Q (f + 1) listed a w'' := by
  intro f
  induction f with
  | zero =>
    intro listed a w _ _ hr hy hb H w'' hw''
    refine ⟨fun h => (by rw [h] at hr; cases hr), fun j hj => ?_⟩
    by_cases hji : j = i
    · subst hji
      exact hy.wpOp hi (ext_trans hb hw'') fun w1 h1 => ⟨fun _ => ext_trans (ext_trans hb hw'') h1, fun w2 h2 => H w2 (ext_trans hw'' (ext_trans h1 h2))⟩
    · have := ready_mono hj hji
      rw [(H w'' hw'').1] at this
      cases this
  | succ f ih =>
    intro listed a w hcl hfree hr hy hb H w'' hw''
    refine ⟨fun h => (by rw [h] at hr; cases hr), fun j hj => ?_⟩
    by_cases hji : j = i
    · subst hji
      exact hy.wpOp hi (ext_trans hb hw'') fun w1 h1 => ⟨fun _ => ext_trans (ext_trans hb hw'') h1, fun w2 h2 => H w2 (ext_trans hw'' (ext_trans h1 h2))⟩
    · have h1 := (H w'' hw'').2 j (ready_mono hj hji)
      obtain ⟨hjun, oj, hoj, hall⟩ := mem_ready.1 hj
      have hnot : ∀ e ∈ oj.after, Region.binds md e = true → e.on ≠ i := fun e he hb heq => by
        have h1 := hall e he hb
        have h0 := (mem_ready.1 hr).1
        rw [heq, getD_both h0] at h1
        cases h1
      have h2 := wpOp_putC hoj (hfree j oj hoj hji hjun hnot) (fun cs b => hsel i oi cs b hi) (fun cs b => hsel j oj cs b hoj) hQ hy h1
      have hfree' : ∀ k ok, ops[k]? = some ok → k ≠ i → (listed.setIfInBounds j true).getD k true = false →
          (∀ e ∈ ok.after, Region.binds md e = true → e.on ≠ i) → oi.apart ops ok = true := fun k ok hk hki hun hno => by
        refine hfree k ok hk hki ?_ hno
        by_cases hjk : j = k
        · subst hjk; exact hjun
        · rw [getD_set_ne true hjk] at hun; exact hun
      refine wpOp_mono (fun a' w' h3 => ⟨h3.2.1, ih (listed.setIfInBounds j true) a' w' (hcl.set_ hj) hfree' (ready_mono hr (Ne.symm hji)) h3.1 (h3.2.1 (hm listed j hcl hj (mem_ready.1 hr).1)) ?_⟩) h2
      rw [Array.setIfInBounds_comm _ _ hji]
      exact h3.2.2

/-- The last operations, in the order of the text; between any two of them the world may grow. -/
def wpListE (P : Program) (ops : Array Oper) (W : World) (keep : Bool) (Q : Exit → Act → World → Prop) : List Oper → Act → World → Prop
  | [], a, w => Q .normal a w
  | o :: rest, a, w =>
    if Region.wanted o (yielded ops a.tmps) then o.wp P a w (fun a' w' => (keep = true → Below W.heap.size W w') ∧ ∀ w'', Below w'.heap.size w' w'' → wpListE P ops W keep Q rest a' w'') Q ∨ (o.asks P a w ∧ LetsOut Q)
    else ∀ w'', Below w.heap.size w w'' → wpListE P ops W keep Q rest (a.put o.dst undef) w''

theorem wpListE_nil {ops : Array Oper} {W : World} {keep : Bool} {Q : Exit → Act → World → Prop} {a : Act} {w : World} (h : Q .normal a w) : wpListE P ops W keep Q [] a w := h
/-- What is asked behind one of them. -/
def tailQ (P : Program) (ops : Array Oper) (W : World) (keep : Bool) (Q : Exit → Act → World → Prop) (rest : List Oper) : Exit → Act → World → Prop
  | .normal, a, w => (keep = true → Below W.heap.size W w) ∧ ∀ y : Cl w, wpListE P ops W keep Q rest a y.w
  | e, a, w => Q e a w

theorem wpListE_cons {ops : Array Oper} {W : World} {keep : Bool} {Q : Exit → Act → World → Prop} {o : Oper} {rest : List Oper} {a : Act} {w : World} (hw : Region.wanted o (yielded ops a.tmps) = true)
    (h : wpList P ops (tailQ P ops W keep Q rest) [o] a w) : wpListE P ops W keep Q (o :: rest) a w := by
  unfold wpList at h
  unfold wpListE
  rw [if_pos hw] at h ⊢
  rcases h with h | ⟨h1, a', w', h2⟩
  · refine .inl ?_
    unfold Oper.wp at h ⊢
    generalize (execOp a.eval o).run P w = r at *
    have hk : ∀ a' w', wpList P ops (tailQ P ops W keep Q rest) [] a' w' → (keep = true → Below W.heap.size W w') ∧ ∀ w'', Below w'.heap.size w' w'' → wpListE P ops W keep Q rest a' w'' := fun a' w' h' => ⟨h'.1, fun w'' hw'' => h'.2 ⟨w'', hw''⟩⟩
    cases r with
    | ok n w' =>
      cases n <;> simp only [Oper.upon] at h ⊢
      case value u => exact hk _ _ h
      case skip => exact hk _ _ h
      case defer d => exact hk _ _ h
      case enter f args =>
        refine Calls.mono h fun e w'' he => ?_
        cases e with
        | returned u => exact hk _ _ he
        | panicked c => exact he
        | outgrown => exact he
      case row row args => exact Rows.mono h fun u w'' he => hk _ _ he
    | halt x w' =>
      cases x <;> simp only [Oper.upon] at h ⊢
      case panic u => exact h
  · exact .inr ⟨h1, a', w', h2⟩

theorem wpAnyE_of_seq {md : Region.Mode} {ops : Array Oper} {W : World} {m : Nat} {keep : Bool} {Q : Exit → Act → World → Prop} : ∀ (l : List Oper) (k : Nat) (listed : Array Bool) (a : Act) (w : World), (∀ j, l[j]? = ops[k + j]?) →
    Region.seqB md ops l.length k listed = true → (keep = false → m ≤ k) → (keep = true → Below W.heap.size W w) → wpListE P ops W keep Q l a w → wpAnyE P md ops W m Q l.length listed a w
  | [], _, _, _, _, _, hB, _, _, h => ⟨by simpa [Region.seqB] using hB, h⟩
  | o :: l, k, listed, a, w, hl, hB, hk, hb, h => by
    have h0 : ops[k]? = some o := by simpa using (hl 0).symm
    simp only [List.length_cons, Region.seqB, Bool.and_eq_true, decide_eq_true_eq] at hB
    have hl' : ∀ j, l[j]? = ops[k + 1 + j]? := fun j => by have := hl (j + 1); simpa [Nat.add_assoc, Nat.add_comm 1 j] using this
    have hm : ∀ {p : Prop}, (keep = true → p) → k < m → p := fun hp hkm => by
      cases keep with
      | true => exact hp rfl
      | false => have := hk rfl; omega
    refine ⟨fun h1 => (by rw [hB.1] at h1; cases h1), fun i hi => ?_⟩
    rw [hB.1] at hi
    have hik : i = k := by simpa using hi
    subst hik
    unfold wpListE at h
    unfold Go.wpOp
    simp only [h0]
    by_cases hw : Region.wanted o (yielded ops a.tmps) = true
    · rw [if_pos hw] at h ⊢
      rcases h with h | h
      · exact .inl (Oper.wp_mono (fun a' w' h' => ⟨hm h'.1, fun w'' hw'' => wpAnyE_of_seq l (i + 1) _ a' w'' hl' hB.2 (fun e => Nat.le_succ_of_le (hk e)) (fun e => ext_trans (h'.1 e) hw'') (h'.2 w'' hw'')⟩) h)
      · exact .inr h
    · rw [if_neg hw] at h ⊢
      exact ⟨hm hb, fun w'' hw'' => wpAnyE_of_seq l (i + 1) _ _ w'' hl' hB.2 (fun e => Nat.le_succ_of_le (hk e)) (fun e => ext_trans (hb e) hw'') (h w'' hw'')⟩

theorem wpAnyE_lex {md : Region.Mode} {ops : Array Oper} {W : World} {m : Nat} {keep : Bool} {Q : Exit → Act → World → Prop} {n g : Nat} {tail : List Oper} (hsel : Region.noSelect ops = true)
    (hm : ∀ i, i < n → ∀ (listed : Array Bool) j, Closed md ops listed → j ∈ Region.ready md ops listed → listed.getD i true = false → j < m) (hmn : keep = false → m ≤ n)
    (hQ : ∀ c a d v w, Q (.panic c) (a.put d v) w → Q (.panic c) a w) (htail : ∀ j, tail[j]? = ops[n + j]?) (hg : tail.length = g) :
    ∀ (l : List Oper) (k : Nat) (listed : Array Bool) (a : Act), (∀ j, j < l.length → l[j]? = ops[k + j]?) → k + l.length = n → Closed md ops listed →
    Region.lexHead md ops g l.length k listed = true → wpCalm P ops W (fun a' => ∀ w, Below W.heap.size W w → wpListE P ops W keep Q tail a' w) l a →
    ∀ w, Below W.heap.size W w → ∀ w'', Below w.heap.size w w'' → wpAnyE P md ops W m Q (l.length + g) listed a w''
  | [], k, listed, a, _, hk, _, hB, h, w, hb, w'', hw'' => by
    have : k = n := by simpa using hk
    subst this
    subst hg
    simpa using wpAnyE_of_seq tail k listed a w'' htail (by simpa [Region.lexHead] using hB) hmn (fun _ => ext_trans hb hw'') (h w'' (ext_trans hb hw''))
  | o :: l, k, listed, a, hl, hk, hcl, hB, h, w, hb, w'', hw'' => by
    have h0 : ops[k]? = some o := by simpa using (hl 0 (by simp)).symm
    simp only [List.length_cons, Region.lexHead, Bool.and_eq_true] at hB
    obtain ⟨⟨hr, hf⟩, hB'⟩ := hB
    obtain ⟨v, hy, hK⟩ := h
    have hkn : k < n := by simp only [List.length_cons] at hk; omega
    have := wpAnyE_first h0 (hm k hkn) (Region.noSelect_spec hsel) (fun c a w => hQ c a o.dst v w) (l.length + g) listed a w hcl (Region.free_spec h0 hf) (by simpa using hr) hy hb
      (wpAnyE_lex hsel hm hmn hQ htail hg l (k + 1) _ _ (fun j hj => by have := hl (j + 1) (by simp; omega); simpa [Nat.add_assoc, Nat.add_comm 1 j] using this) (by simp only [List.length_cons] at hk; omega) (hcl.set_ (by simpa using hr)) hB' hK w hb) w'' hw''
    rw [show (o :: l).length + g = l.length + g + 1 by simp; omega]
    exact this

/-- The order's own Bool. -/
def tailB (md : Region.Mode) (ops : Array Oper) (n : Nat) : Bool :=
  Region.noSelect ops && decide (n ≤ ops.size) && Region.lexHead md ops (ops.size - n) n 0 (Array.replicate ops.size false)
/-- Each of the last ones waits for each of the first n. -/
def lastB (md : Region.Mode) (ops : Array Oper) (n : Nat) : Bool :=
  (List.range ops.size).all fun t => decide (t < n) || (List.range n).all fun i => waitsT md ops ops.size t i

theorem region_any {id : Nat} {Q : Exit → Act → World → Prop} {a : Act} {w : World} {x : Cl w} {l : List Oper} (n m : Nat) (keep : Bool) {f0 : FuncId} {fn0 : Func} {t0 : Tmp}
    (hf0 : P.funcs[f0]? = some fn0) (hr0 : fn0.results = #[.tmp t0]) (hi0 : P.inits.idxOf? f0 = none)
    (hm : P.follows .mixedOrders = true) (hB : tailB .any l.toArray n = true) (hQ : ∀ c a d v w, Q (.panic c) (a.put d v) w → Q (.panic c) a w)
    (hmm : ∀ i, i < n → ∀ (listed : Array Bool) j, Closed .any l.toArray listed → j ∈ Region.ready .any l.toArray listed → listed.getD i true = false → j < m) (hmn : keep = false → m ≤ n)
    (h : ∀ X : Cl w, wpQuiet P l.toArray (fun w' => ∃ y : Cl X.w, w' = y.w) (fun a' => ∀ y : Cl X.w, wpListE P l.toArray w keep Q (l.drop n) a' y.w) (l.take n) a) : (Code.region id l.toArray true).wp P Q a x.w := by
  simp only [tailB, Bool.and_eq_true, decide_eq_true_eq] at hB
  obtain ⟨⟨hsel, hn⟩, hlex⟩ := hB
  have hn' : n ≤ l.length := by simpa using hn
  have htl : (l.take n).length = n := by simp; omega
  have hcls : ∀ X : World, (fun w' => ∃ y : Cl X, w' = y.w) = (fun w' => Below X.heap.size X w') := fun X => by
    funext w'
    exact propext ⟨fun ⟨y, hy⟩ => hy ▸ y.below, fun hb => ⟨⟨w', hb⟩, rfl⟩⟩
  have hcalm := calm_of_quiet (W := w) (Q := fun W' a' => ∀ y : Cl W', wpListE P l.toArray w keep Q (l.drop n) a' y.w) hf0 hr0 hi0 (l.take n) a fun W' hW' => by
    have := h ⟨W', hW'⟩
    rw [hcls] at this
    exact this
  have hcalm' : wpCalm P l.toArray w (fun a' => ∀ w', Below w.heap.size w w' → wpListE P l.toArray w keep Q (l.drop n) a' w') (l.take n) a := by
    have mono : ∀ (l' : List Oper) (a : Act) {Q1 Q2 : Act → Prop}, (∀ a, Q1 a → Q2 a) → wpCalm P l.toArray w Q1 l' a → wpCalm P l.toArray w Q2 l' a := by
      intro l'
      induction l' with
      | nil => intro a Q1 Q2 hq h1; exact hq a h1
      | cons o l' ih => intro a Q1 Q2 hq ⟨v, hy, h1⟩; exact ⟨v, hy, ih _ hq h1⟩
    exact mono _ _ (fun a' h' w' hw' => h' w' hw' (Cl.start w')) hcalm
  have H := wpAnyE_lex (md := .any) (n := n) (m := m) (g := l.toArray.size - n) (tail := l.drop n) hsel hmm hmn hQ (fun j => by simp [List.getElem?_drop]) (by simp) (l.take n) 0 (Array.replicate l.toArray.size false) a
    (fun j hj => by
      have hj' : j < n := by rw [htl] at hj; exact hj
      simp [hj']) (by simpa using htl) (fun j oj _ hl => by rw [getD_replicate_false] at hl; cases hl) (by rw [htl]; exact hlex) hcalm' { x.w with drawn := x.w.drawn + 1 } (x.below.trans ⟨rfl, rfl, rfl, Nat.le_refl _, fun _ _ => rfl⟩) _ (Below.refl _ _)
  refine wp_region_any hm ?_
  have := wpAny_of_E _ _ _ _ H
  rw [htl, show n + (l.toArray.size - n) = l.toArray.size by simp at hn ⊢; omega] at this
  exact this

/-- The region, in the class: the first n operations calm, in the order of the text; the others one behind the other; they make and write new memory alone. -/
theorem region_tail {id : Nat} {Q : Exit → Act → World → Prop} {a : Act} {w : World} {x : Cl w} {l : List Oper} (n : Nat) {f0 : FuncId} {fn0 : Func} {t0 : Tmp}
    (hf0 : P.funcs[f0]? = some fn0) (hr0 : fn0.results = #[.tmp t0]) (hi0 : P.inits.idxOf? f0 = none)
    (hm : P.follows .mixedOrders = true) (hB : tailB .any l.toArray n = true) (hQ : ∀ c a d v w, Q (.panic c) (a.put d v) w → Q (.panic c) a w)
    (h : ∀ X : Cl w, wpQuiet P l.toArray (fun w' => ∃ y : Cl X.w, w' = y.w) (fun a' => ∀ y : Cl X.w, wpListE P l.toArray w true Q (l.drop n) a' y.w) (l.take n) a) : (Code.region id l.toArray true).wp P Q a x.w :=
  region_any n l.toArray.size true hf0 hr0 hi0 hm hB hQ (fun _ _ listed j _ hj _ => (Array.getElem?_eq_some_iff.1 (mem_ready.1 hj).2.choose_spec.1).1) (fun h => by cases h) h

/-- The same where each of the last ones waits for all of the first: they may write what there was. -/
theorem region_last {id : Nat} {Q : Exit → Act → World → Prop} {a : Act} {w : World} {x : Cl w} {l : List Oper} (n : Nat) {f0 : FuncId} {fn0 : Func} {t0 : Tmp}
    (hf0 : P.funcs[f0]? = some fn0) (hr0 : fn0.results = #[.tmp t0]) (hi0 : P.inits.idxOf? f0 = none)
    (hm : P.follows .mixedOrders = true) (hB : tailB .any l.toArray n = true) (hL : lastB .any l.toArray n = true) (hQ : ∀ c a d v w, Q (.panic c) (a.put d v) w → Q (.panic c) a w)
    (h : ∀ X : Cl w, wpQuiet P l.toArray (fun w' => ∃ y : Cl X.w, w' = y.w) (fun a' => ∀ y : Cl X.w, wpListE P l.toArray w false Q (l.drop n) a' y.w) (l.take n) a) : (Code.region id l.toArray true).wp P Q a x.w :=
  region_any n n false hf0 hr0 hi0 hm hB hQ (fun i hi listed j hcl hj hun => by
    rcases Nat.lt_or_ge j n with h0 | h0
    · exact h0
    · obtain ⟨_, oj, hoj, hall⟩ := mem_ready.1 hj
      have hjs : j < l.toArray.size := (Array.getElem?_eq_some_iff.1 hoj).1
      have h1 := List.all_eq_true.1 hL j (List.mem_range.2 hjs)
      simp only [Bool.or_eq_true, decide_eq_true_eq] at h1
      rcases h1 with h1 | h1
      · exact h1
      · have h2 := List.all_eq_true.1 h1 i (List.mem_range.2 hi)
        -- were it listed as well
        have hcl' : Closed .any l.toArray (listed.setIfInBounds j true) := hcl.set_ hj
        have hjl : (listed.setIfInBounds j true).getD j false = true := by
          have : j < listed.size := by
            rcases Nat.lt_or_ge j listed.size with h' | h'
            · exact h'
            · have := (mem_ready.1 hj).1; simp [Array.getElem?_eq_none h'] at this
          simp [this]
        have h3 := hcl'.waits _ j i hjl h2
        by_cases hji : j = i
        · omega
        · rw [getD_set_ne false hji, getD_both hun] at h3
          cases h3) (fun _ => Nat.le_refl _) h
end
theorem grown_set {w w' : World} {g : Nat} (h : w.grownBy w' (some g)) (k : Nat) (u : Value) : w.grownBy (w'.setCell ⟨g, k, none⟩ u) (some g) :=
  ⟨h.os, h.tape, h.output, by simpa [World.setCell] using h.size, fun i hi hne => (Below.heap_setCell w' _ u i (fun e => hne (by rw [e]))).trans (h.block i hi hne)⟩
theorem grown_ext {w w' w'' : World} {g : Option Nat} (h : w.grownBy w' g) (k : Below w'.heap.size w' w'') : w.grownBy w'' g :=
  ⟨k.os.trans h.os, k.tape.trans h.tape, k.output.trans h.output, Nat.le_trans h.size k.size, fun i hi hne => (k.block i (Nat.lt_of_lt_of_le hi h.size)).trans (h.block i hi hne)⟩
theorem grown_of {w w' : World} (h : Below w.heap.size w w') (g : Option Nat) : w.grownBy w' g := ⟨h.os, h.tape, h.output, h.size, fun i hi _ => h.block i hi⟩
theorem Has.grown {W W' : World} {b : Nat} {cs : List Value} {g : Nat} (h : Has W b cs) (hg : W.grownBy W' (some g)) (hne : b ≠ g) : Has W' b cs := by
  have e : W'.heap[b]? = W.heap[b]? := hg.block b h.1 (fun e => hne (by injection e))
  exact ⟨Nat.lt_of_lt_of_le h.1 hg.size, fun i v hi => ⟨(World.cell?_of_block (a := ⟨b, i, none⟩) e).trans (h.2 i v hi).1, (World.frozen?_of_block (a := ⟨b, i, none⟩) e).trans (h.2 i v hi).2⟩⟩
theorem below_of_grown {W W' : World} {g B : Nat} (hg : W.grownBy W' (some g)) (hB : B ≤ W.heap.size) (hgB : B ≤ g) : Below B W W' :=
  ⟨hg.os, hg.tape, hg.output, hg.size, fun i hi => hg.block i (by omega) (fun e => by injection e; omega)⟩
end Go.Proofs.YtldlnclkdgfahaaGreat
