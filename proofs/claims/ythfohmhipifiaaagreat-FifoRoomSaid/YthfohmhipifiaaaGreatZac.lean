/- Part 3. -/
import Derived.Test.YthfohmhipifiaaaGreatZab
import Derived.Orders
import Derived.LoopN
import Derived.Scope
import Derived.Defers
import Derived.Recover
import Derived.WalkSmall
set_option linter.unusedSimpArgs false
set_option linter.unusedVariables false
/- The runner against the model: code and calls. -/
namespace Go.Proofs.YthfohmhipifiaaaGreat
open Go.RowKit
namespace Ev

def Zw9 (P : Program) (ι : Ren) (s : St) (w : World) (v : Value) (s' : St) (e : Ending) (w' : World) : Prop :=
  ∃ v' ι', e = .returned v' ∧ Step P ι s.h.get w ι' s'.h.get w' ∧ Dom ι ι' s.n s'.n ∧ VR ι' v v'
def Goes (P : Program) (f : FuncId) (args : Array Value) (w : World) (R : Ending → World → Prop) : Prop :=
  ((∃ (fn : Func) (c : Code), P.funcs[f]? = some fn ∧ fn.body = some c) ∧ Calls P f args w R) ∨ ∃ v w', (callFunc f args).run P w = .ok (.value v) w' ∧ R (.returned v) w'
structure Zxm (P : Program) (f : FuncId) (g : Array Value → St → Out) : Prop where
  up : ∀ args s v s', g args s = some (v, s') → Up s s'
  does : ∀ args s v s', g args s = some (v, s') → (∀ p ∈ s'.ob, p.1 = p.2) → ∀ ι w args', VRs ι args args' → Emb P ι s.h.get w → Fresh ι s.n s'.n → Goes P f args' w (Zw9 P ι s w v s')
def ZgY (v : Value) : List PanicEntry := [{ v := v, recovered := false }]
def ZcD (P : Program) (f : FuncId) (args : Array Value) (pre : List (Nat × AObj)) (v : Value) (post : List (Nat × Option AObj)) (n dn : Nat) : Prop :=
  ∀ ι w args', VRs ι args args' → Emb P ι (fun k => ZaL k pre) w → Fresh ι n (n + dn) → Calls P f args' w fun e w' => (∃ v' ι', e = .returned v' ∧ Step P ι (fun k => ZaL k pre) w ι' (behind pre post) w' ∧ Dom ι ι' n (n + dn) ∧ VR ι' v v') ∨ (Zc9 v = true ∧ ∃ ι', e = .panicked (ZgY v) ∧ Step P ι (fun k => ZaL k pre) w ι' (behind pre post) w' ∧ Dom ι ι' n (n + dn))
structure Fit (P : Program) (ext : FuncId → Option Ext) : Prop where
  mixed : P.follows .mixedOrders = true
  go : ∀ (f : Nat) (fn : Func), P.funcs[f]? = some fn → (fn.name == "runtime.NumGoroutine") = false
  fn : ∀ (f : Nat) (g : List Value → Option Value), ext f = some (.fn g) → (∃ (fn : Func) (c : Code), P.funcs[f]? = some fn ∧ fn.body = some c) ∧ ∀ (args : Array Value) (v : Value), Z5 free args.toList = true → g args.toList = some v → ∀ w, TabW w → Calls P f args w fun e w' => e = .returned v ∧ Below w.heap.size w w'
  hp : ∀ (f : Nat) (g : Array Value → St → Out), ext f = some (.hp g) → Zxm P f g
  tc : ∀ (f : Nat) (S : Array Value → List (Nat × AObj) → Value → List (Nat × Option AObj) → Nat → Nat → Prop), ext f = some (.tc S) → (∃ (fn : Func) (c : Code), P.funcs[f]? = some fn ∧ fn.body = some c) ∧ ∀ args pre v post n dn, S args pre v post n dn → ZcD P f args pre v post n dn
  mark : ∀ (f : Nat) (n : Nat), ext f = some (.mark n) → ∃ fn : Func, P.funcs[f]? = some fn ∧ fn.body.isNone = true ∧ Extern.findNext fn = none ∧
    (n = 0 ∧ (∃ m : Mark, Extern.find fn = some (fun _ => do mark m; pure Extern.Race.none_)) ∨ n = 1 ∧ ∃ m : Addr → Mark, Extern.find fn = some (Extern.Race.marked m))
  ext : ∀ (f : Nat) (kk : IntKind) (e : Nat), ext f = some (.at kk e) → ∃ fn : Func, P.funcs[f]? = some fn ∧ fn.body.isNone = true ∧ Extern.findNext fn = none ∧
    (e = 0 ∧ Extern.find fn = some (Extern.Atomic.loadT (.int kk)) ∨ e = 1 ∧ Extern.find fn = some Extern.Atomic.storeT ∨
     e = 2 ∧ Extern.find fn = some (Extern.Atomic.update (Op.intArith .add) kk true) ∨ e = 3 ∧ Extern.find fn = some (Extern.Atomic.casT (.int kk)))
section
variable {P : Program} {ext : FuncId → Option Ext}

theorem up_fn {g : List Value → Option Value} {args : Array Value} {s s' : St} {v : Value} (h : Z0f g args s = some (v, s')) : Up s s' := by
  unfold Z0f at h
  replace h := (Zp h).2
  split at h
  · replace h := (Zp h).2
    injection h with h; injection h with h1 h2; subst h1 h2; exact Up.refl _
  · cases h
theorem ZcK {ops : Array Oper} {T : Tr Value} {o : Oper} {s s' : St} {b : Bool} (h : ZgW ops T o s = some (b, s')) : Up s s' := by
  unfold ZgW at h
  split at h
  · injection h with h; injection h with h1 h2; subst h1 h2; exact Up.refl _
  · split at h
    · split at h
      · injection h with h; injection h with h1 h2; subst h1 h2; exact Up.refl _
      · injection h with h; injection h with h1 h2; subst h1 h2; exact Up.refl _
      · cases h
    · cases h
theorem Zl3 {h : Tr AObj} (k : Nat) : ∀ (t : List Nat), (Zl0 h t).get k = if k ∈ t then h.get k else none
  | [] => by simp [Zl0, Tr.get_nil]
  | j :: t => by
    rw [Zl0, Tr.get_set]
    by_cases hk : k = j
    · subst hk; rw [Zo]; simp
    · rw [Zh hk, Zl3 k t]
      simp [hk]
theorem ZdU {r h : Tr AObj} (k : Nat) : ∀ (t : List Nat), (Zf8 r t h).get k = if k ∈ t then r.get k else h.get k
  | [] => by simp [Zf8]
  | j :: t => by
    rw [Zf8, Tr.get_set]
    by_cases hk : k = j
    · subst hk; rw [Zo]; simp
    · rw [Zh hk, ZdU k t]
      simp [hk]
section
variable {P : Program}
/-! ### What is elsewhere stays -/
noncomputable def join (h x : AH) : AH := fun k => match h k with | some o => some o | none => x k
theorem ZdV {h x : AH} {k : Nat} (hk : (h k).isSome) : join h x k = h k := by
  unfold join
  cases he : h k with
  | none => rw [he] at hk; cases hk
  | some o => rfl
theorem Zcz {h x : AH} {k : Nat} (hk : h k = none) : join h x k = x k := by unfold join; rw [hk]
theorem Emb.sub {ι : Ren} {h g : AH} {w : World} (e : Emb P ι g w) (hs : ∀ k o, h k = some o → g k = some o) : Emb P ι h w := by
  have iso : ∀ k b, Za3 (h k) b = true → Za3 (g k) b = true := fun k b hk => by
    cases he : h k with
    | none => rw [he] at hk; cases hk
    | some o => rw [hs k o he, ← he]; exact hk
  have isoC : ∀ k b, Zag (h k) b = true → Zag (g k) b = true := fun k b hk => by
    cases he : h k with
    | none => rw [he] at hk; cases hk
    | some o => rw [hs k o he, ← he]; exact hk
  exact ⟨fun k c t q hk => e.obj k c t q (hs k _ hk), fun k O hk => e.ro k O (hs k _ hk), fun k k' b b' h1 h2 => e.inj k k' b b' (isoC k _ h1) (iso k' _ h2), e.lt, fun b base id q hq => ⟨(e.mks b base id q hq).1, (e.mks b base id q hq).2.1, fun k d hk hd => (e.mks b base id q hq).2.2 k d (isoC k _ hk) hd⟩, e.tb⟩
theorem Step.framed {ι ι' : Ren} {h h' x : AH} {w w' : World} (st : Step P ι h w ι' h' w') (e : Emb P ι (join h x) w) (hx : ∀ k, (x k).isSome → h k = none) :
    Step P ι (join h x) w ι' (join h' x) w' := by
  have hl : ∀ k b, Za3 (h k) b = true → Za3 (join h x k) b = true := fun k b hk => by rw [ZdV (ZcJ hk)]; exact hk
  have hlC : ∀ k b, Zag (h k) b = true → Zag (join h x k) b = true := fun k b hk => by rw [ZdV (ZbF hk)]; exact hk
  have xlC : ∀ k b, Zag (x k) b = true → Zag (join h x k) b = true := fun k b hk => by rw [Zcz (hx k (ZbF hk))]; exact hk
  have xl : ∀ k b, Za3 (x k) b = true → Za3 (join h x k) b = true := fun k b hk => by rw [Zcz (hx k (ZcJ hk))]; exact hk
  have xi : ∀ k, (x k).isSome → (join h x k).isSome := fun k hk => by rw [Zcz (hx k hk)]; exact hk
  have partsS : ∀ k b, Za3 (join h' x k) b = true → Za3 (h' k) b = true ∨ (h' k = none ∧ Za3 (x k) b = true) := fun k b hk => by
    cases he : h' k with
    | some o => rw [ZdV (by rw [he]; rfl), he] at hk; exact .inl hk
    | none => rw [Zcz he] at hk; exact .inr ⟨rfl, hk⟩
  have parts : ∀ k, (join h' x k).isSome → (h' k).isSome ∨ (h' k = none ∧ (x k).isSome) := fun k hk => by
    cases he : h' k with
    | some o => exact .inl rfl
    | none => rw [Zcz he] at hk; exact .inr ⟨rfl, hk⟩
  have partsC : ∀ k b, Zag (join h' x k) b = true → Zag (h' k) b = true ∨ (h' k = none ∧ Zag (x k) b = true) := fun k b hk => by
    cases he : h' k with
    | some o => rw [ZdV (by rw [he]; rfl), he] at hk; exact .inl hk
    | none => rw [Zcz he] at hk; exact .inr ⟨rfl, hk⟩
  have xι : ∀ k, (x k).isSome → ∃ b, ι k = some b ∧ ι' k = some b := fun k hk => by
    obtain ⟨b, hb⟩ := e.live (xi k hk)
    exact ⟨b, hb, st.ext k b hb⟩
  refine ⟨st.ext, ⟨fun k c t q hk => ?_, fun k O hk => ?_, fun k k' b b' h1 h2 h3 h4 h5 => ?_, st.emb.lt, ?_, st.emb.tb⟩, st.os, st.tape, st.output, st.size, fun b hb hno => st.frame b hb fun k c hk => hno k c (hlC k c hk), fun k b h1 h2 h0 => ?_, fun k b h1 h2 => ?_, fun k b h1 h2 => ?_⟩
  · rcases parts k (by rw [hk]; rfl) with h1 | ⟨h1, h2⟩
    · rw [ZdV h1] at hk
      exact st.emb.obj k c t q hk
    · rw [Zcz h1] at hk
      obtain ⟨b, hb, hz | ⟨q0, C, hB, hC, hQ⟩⟩ := e.obj k c t q (by rw [Zcz (hx k h2)]; exact hk)
      · exact ⟨b, st.ext k b hb, .inl hz⟩
      refine ⟨b, st.ext k b hb, .inr ⟨q0, C, ?_, hC.ext st.ext, hQ⟩⟩
      rw [st.frame b.1 (e.lt k b hb)]
      · exact hB
      · intro j d hj hd he
        have : j = k := e.inj j k d b (hlC j d hj) (xl k b (by rw [hk]; exact Zd8 q0)) hd hb he
        subst this
        rw [hx j h2] at hj
        cases hj
  · rcases parts k (by rw [hk]; rfl) with h1 | ⟨h1, h2⟩
    · rw [ZdV h1] at hk
      exact st.emb.ro k O hk
    · rw [Zcz h1] at hk
      obtain ⟨b, hb, hB⟩ := e.ro k O (by rw [Zcz (hx k h2)]; exact hk)
      refine ⟨b, st.ext k b hb, ?_⟩
      rw [st.frame b.1 (e.lt k b hb)]
      · exact hB
      · intro j d hj hd he
        have : j = k := e.inj j k d b (hlC j d hj) (xl k b (by rw [hk]; rfl)) hd hb he
        subst this
        rw [hx j h2] at hj
        cases hj
  · -- one of h', one of x
    have mixed : ∀ {k k' : Nat} {b b' : Nat × Nat}, Za3 (h' k) b = true → Za3 (x k') b' = true → (Zag (h' k) b = true ∨ Zag (x k') b' = true) → ι' k = some b → ι' k' = some b' → b.1 = b'.1 → k = k' := fun {k k' b b'} h1 h2 hor h3 h4 h5 => by
      obtain ⟨c, hc, hc'⟩ := xι k' (ZcJ h2)
      rw [h4] at hc'; injection hc' with hc'; subst hc'
      cases hk : ι k with
      | some d =>
        have e1 := st.ext k d hk
        rw [h3] at e1; injection e1 with e1; subst e1
        rcases hor with hC | hC
        · exact e.inj k k' b b' (hlC k b (st.kind k b hC hk)) (xl k' b' h2) hk hc h5
        · exact (e.inj k' k b' b (xlC k' b' hC) (hl k b (st.alive k b h1 hk)) hc hk h5.symm).symm
      | none =>
        rcases st.new k b hk h3 (.inl h1) with h6 | ⟨j, d, hj, hd, he⟩
        · have := e.lt k' b' hc
          omega
        · have : j = k' := e.inj j k' d b' (hlC j d hj) (xl k' b' h2) hd hc (he.trans h5)
          subst this
          rw [hx j (ZcJ h2)] at hj
          cases hj
    rcases partsC k b h1 with q1 | ⟨_, q1⟩ <;> rcases partsS k' b' h2 with q2 | ⟨_, q2⟩
    · exact st.emb.inj k k' b b' q1 q2 h3 h4 h5
    · exact mixed (Zd8 q1) q2 (.inl q1) h3 h4 h5
    · exact (mixed q2 (Zd8 q1) (.inr q1) h4 h3 h5.symm).symm
    · obtain ⟨c, hc, hc'⟩ := xι k (ZbF q1)
      obtain ⟨d, hd, hd'⟩ := xι k' (ZcJ q2)
      rw [h3] at hc'; injection hc' with hc'; subst hc'
      rw [h4] at hd'; injection hd' with hd'; subst hd'
      exact e.inj k k' b b' (xlC k b q1) (xl k' b' q2) hc hd h5
  · intro b base id q hq
    obtain ⟨m1, m2, m3⟩ := st.emb.mks b base id q hq
    refine ⟨m1, m2, fun k d hk hd => ?_⟩
    rcases partsC k d hk with q1 | ⟨_, q1⟩
    · exact m3 k d q1 hd
    · obtain ⟨c, hc, hc'⟩ := xι k (ZbF q1)
      rw [hd] at hc'; injection hc' with hc'; subst hc'
      cases hm : ι (Zai b base id) with
      | some q' => exact (e.mks b base id q' hm).2.2 k d (xlC k d q1) hc
      | none =>
        rcases st.new _ q hm hq (.inr (Zf5 b base id)) with h6 | ⟨j, c', hj, hc'', he⟩
        · have := e.lt k d hc
          omega
        · intro hdb
          have : j = k := e.inj j k c' d (hlC j c' hj) (xl k d (Zd8 q1)) hc'' hc (by omega)
          subst this
          rw [hx j (ZbF q1)] at hj
          cases hj
  · have h0' : Za3 (h' k) b = true ∨ ZcP k := by
      rcases h0 with h0 | h0
      · rcases partsS k b h0 with q1 | ⟨_, q1⟩
        · exact .inl q1
        · obtain ⟨c, hc, _⟩ := xι k (ZcJ q1)
          rw [h1] at hc; cases hc
      · exact .inr h0
    rcases st.new k b h1 h2 h0' with h3 | ⟨j, c, hj, hc⟩
    · exact .inl h3
    · exact .inr ⟨j, c, hlC j c hj, hc⟩
  · rcases partsS k b h1 with q1 | ⟨_, q1⟩
    · exact hl k b (st.alive k b q1 (by
        rcases Option.isSome_iff_exists.1 (ZcJ q1) with ⟨o, ho⟩
        exact h2))
    · exact xl k b q1
  · rcases partsC k b h1 with q1 | ⟨_, q1⟩
    · exact hlC k b (st.kind k b q1 h2)
    · exact xlC k b q1

end
theorem Zpi (h : Tr AObj) : ∀ (l : List (Nat × Option AObj)) (k : Nat), (Zq1 h l).get k = match ZaL k l with | some o => o | none => h.get k
  | [], k => rfl
  | x :: l, k => by
    show ((Zq1 h l).set x.1 x.2).get k = _
    rw [Tr.get_set]
    unfold ZaL
    by_cases hk : k = x.1
    · subst hk
      rw [Zo, Nat.beq_refl]
      rfl
    · rw [Zh hk, Zpi h l k, Zik (fun e => hk e.symm)]
      rfl
theorem ZkJ {α : Type} {k : Nat} {o : α} : ∀ {l : List (Nat × α)}, ZaL k l = some o → (k, o) ∈ l
  | [], h => by cases h
  | x :: l, h => by
    unfold ZaL at h
    cases hb : Nat.beq x.1 k with
    | true =>
      rw [hb] at h
      injection h with h
      have := Nat.eq_of_beq_eq_true hb
      obtain ⟨a, b⟩ := x
      subst this h
      exact List.mem_cons_self
    | false =>
      rw [hb] at h
      exact List.mem_cons_of_mem _ (ZkJ h)
theorem Zrn {pre : List (Nat × AObj)} {n n' : Nat} : ∀ {post : List (Nat × Option AObj)}, ZsO pre n n' post = true → ∀ k o, ZaL k post = some o → (ZaL k pre).isSome ∨ (o.isSome ∧ n ≤ k ∧ k < n')
  | [], _, k, o, h => by cases h
  | x :: l, hk, k, o, h => by
    simp only [ZsO, Bool.and_eq_true, Bool.or_eq_true] at hk
    unfold ZaL at h
    cases hb : Nat.beq x.1 k with
    | true =>
      rw [hb] at h
      injection h with h
      have := Nat.eq_of_beq_eq_true hb
      subst this h
      rcases hk.1 with h1 | ⟨h0, h1, h2⟩
      · exact .inl h1
      · exact .inr ⟨h0, Nat.le_of_ble_eq_true h1, Nat.le_of_ble_eq_true h2⟩
    | false => rw [hb] at h; exact Zrn hk.2 k o h
theorem ZmE {s : St} : ∀ (l : List (Nat × AObj)), s.ob <:+ Zq2 s l
  | [] => List.suffix_refl _
  | x :: l => (ZmE l).trans (List.suffix_cons _ _)
theorem Zro {s : St} : ∀ {l : List (Nat × AObj)} {x : Nat × AObj}, x ∈ l → (AObj.sameAs (s.h.get x.1) x.2, true) ∈ Zq2 s l
  | y :: l, x, h => by
    rcases List.mem_cons.1 h with rfl | h
    · exact List.mem_cons_self
    · exact List.mem_cons_of_mem _ (Zro h)
theorem ZyS {o : Option AObj} {p : AObj} (h : AObj.sameAs o p = true) : o = some p := by
  unfold AObj.sameAs at h
  split at h
  · rename_i c t c' t'
    cases hb : Nat.beq t t' with
    | true =>
      rw [hb] at h
      rw [Nat.eq_of_beq_eq_true hb, Zac.1 h]
    | false => rw [hb] at h; cases h
  · rename_i c t c' t'
    cases hb : Nat.beq t t' with
    | true =>
      rw [hb] at h
      rw [Nat.eq_of_beq_eq_true hb, Zac.1 h]
    | false => rw [hb] at h; cases h
  · rw [Zac.1 h]
  · rw [Zac.1 h]
  · cases h
theorem Zxn {S : Array Value → List (Nat × AObj) → Value → List (Nat × Option AObj) → Nat → Nat → Prop} {args : Array Value} {pre : List (Nat × AObj)} {u v : Value} {post : List (Nat × Option AObj)} {dn : Nat} {s s' : St} (h : Znp S args pre u post dn s = some (v, s')) : Up s s' := by
  unfold Znp at h
  replace h := (Zp h).2
  injection h with h
  injection h with h1 h2
  subst h1 h2
  refine ⟨Nat.le_add_right _ _, (ZmE pre).trans (List.suffix_cons _ _), _, rfl, fun k hk _ => ?_⟩
  show (Zq1 s.h post).get k = _
  rw [Zpi]
  cases hl : ZaL k post with
  | none => rfl
  | some o => exact absurd (List.mem_map.2 ⟨_, ZkJ hl, rfl⟩) hk
theorem Zxo {S : Array Value → List (Nat × AObj) → Value → List (Nat × Option AObj) → Nat → Nat → Prop} {args : Array Value} {pre : List (Nat × AObj)} {u v : Value} {post : List (Nat × Option AObj)} {dn : Nat} {s s' : St} (h : ZwO S args pre u post dn s = some (v, s')) : Zc9 u = false ∧ Znp S args pre u post dn s = some (v, s') := by
  unfold ZwO at h
  split at h
  · cases h
  · exact ⟨by assumption, h⟩
theorem Z2K {S : Array Value → List (Nat × AObj) → Value → List (Nat × Option AObj) → Nat → Nat → Prop} {args : Array Value} {pre : List (Nat × AObj)} {u v : Value} {post : List (Nat × Option AObj)} {dn : Nat} {s s' : St} (h : ZwO S args pre u post dn s = some (v, s')) : Up s s' := Zxn (Zxo h).2
theorem Zrp {P : Program} {f : FuncId} {S : Array Value → List (Nat × AObj) → Value → List (Nat × Option AObj) → Nat → Nat → Prop} (hS : ∀ args pre v post n dn, S args pre v post n dn → ZcD P f args pre v post n dn) {args args' : Array Value} {pre : List (Nat × AObj)} {u v : Value} {post : List (Nat × Option AObj)} {dn : Nat} {s s' : St} (h : Znp S args pre u post dn s = some (v, s')) (ho : ∀ p ∈ s'.ob, p.1 = p.2)
    {ι : Ren} {w : World} (ha : VRs ι args args') (he : Emb P ι s.h.get w) (hf : Fresh ι s.n s'.n) : v = u ∧ Calls P f args' w fun e w' => Zw9 P ι s w v s' e w' ∨ (Zc9 v = true ∧ ∃ ι', e = .panicked (ZgY v) ∧ Step P ι s.h.get w ι' s'.h.get w' ∧ Dom ι ι' s.n s'.n) := by
  unfold Znp at h
  obtain ⟨hg, h⟩ := Zp h
  simp only [Bool.and_eq_true] at hg
  injection h with h
  injection h with h1 h2
  subst h1 h2
  have hc := hS _ _ _ _ _ _ (Zac.1 (ho _ List.mem_cons_self))
  have hpre : ∀ k o, ZaL k pre = some o → s.h.get k = some o := fun k o hk => ZyS (ho (AObj.sameAs (s.h.get k) o, true) (List.mem_cons_of_mem _ (Zro (x := (k, o)) (ZkJ hk))))
  let x : AH := fun k => if (ZaL k pre).isSome then none else s.h.get k
  have hx : ∀ k, (x k).isSome → (fun k => ZaL k pre) k = none := fun k hk => by
    show ZaL k pre = none
    cases hl : ZaL k pre with
    | none => rfl
    | some o => simp [x, hl] at hk
  have e1 : join (fun k => ZaL k pre) x = s.h.get := funext fun k => by
    cases hl : ZaL k pre with
    | none => rw [Zcz hl]; simp [x, hl]
    | some o => rw [ZdV (h := fun k => ZaL k pre) (by simp [hl])]; simp only [hl]; exact (hpre k o hl).symm
  have e2 : join (behind pre post) x = (Zq1 s.h post).get := funext fun k => by
    rw [Zpi]
    cases hl : ZaL k post with
    | some o =>
      cases o with
      | some o =>
        have hb : behind pre post k = some o := by unfold behind; rw [hl]
        rw [ZdV (by rw [hb]; rfl), hb]
      | none =>
        have hb : behind pre post k = none := by unfold behind; rw [hl]
        rw [Zcz hb]
        rcases Zrn hg.1 k none hl with h1 | ⟨h1, _⟩
        · simp [x, h1]
        · cases h1
    | none =>
      have hb : behind pre post k = ZaL k pre := by unfold behind; rw [hl]
      cases hp : ZaL k pre with
      | none => rw [Zcz (by rw [hb, hp])]; simp [x, hp]
      | some o => rw [ZdV (by rw [hb, hp]; rfl), hb, hp]; exact (hpre k o hp).symm
  refine ⟨rfl, (hc ι w args' ha (he.sub fun k o hk => hpre k o hk) hf).mono ?_⟩
  rintro e w' (⟨v', ι', rfl, g1, g2, g3⟩ | ⟨ht, ι', rfl, g1, g2⟩)
  · have := g1.framed (x := x) (by rw [e1]; exact he) hx
    rw [e1, e2] at this
    exact .inl ⟨v', ι', rfl, this, g2, g3⟩
  · have := g1.framed (x := x) (by rw [e1]; exact he) hx
    rw [e1, e2] at this
    exact .inr ⟨ht, ι', rfl, this, g2⟩
theorem Z0y {P : Program} {f : FuncId} {S : Array Value → List (Nat × AObj) → Value → List (Nat × Option AObj) → Nat → Nat → Prop} (hS : ∀ args pre v post n dn, S args pre v post n dn → ZcD P f args pre v post n dn) {args args' : Array Value} {pre : List (Nat × AObj)} {u v : Value} {post : List (Nat × Option AObj)} {dn : Nat} {s s' : St} (h : ZwO S args pre u post dn s = some (v, s')) (ho : ∀ p ∈ s'.ob, p.1 = p.2)
    {ι : Ren} {w : World} (ha : VRs ι args args') (he : Emb P ι s.h.get w) (hf : Fresh ι s.n s'.n) : Calls P f args' w (Zw9 P ι s w v s') := by
  obtain ⟨h1, h2⟩ := Zxo h
  obtain ⟨rfl, h3⟩ := Zrp hS h2 ho ha he hf
  refine h3.mono ?_
  rintro e w' (h4 | ⟨h4, _⟩)
  · exact h4
  · rw [h1] at h4; cases h4
theorem ZfL (hup : ∀ (f : Nat) (g : Array Value → St → Out), ext f = some (.hp g) → ∀ args s v s', g args s = some (v, s') → Up s s') : ∀ fu : Nat, (∀ nt c T s e T' s', Zbl P ext nt fu c T s = some (e, T', s') → Up s s') ∧ (∀ nt ops l T s T' s', Zih P ext nt fu ops l T s = some (T', s') → Up s s') ∧
    (∀ ρ o s v s', Zii P ext fu ρ o s = some (v, s') → Up s s') ∧ (∀ f args s v s', Zij P ext fu f args s = some (v, s') → Up s s') ∧ (∀ nt ops done l T s es T' s', Ze9 P ext nt fu ops done l T s = some (es, T', s') → Up s s') ∧ (∀ xs ρ o s v s' r, Zkj P ext fu xs ρ o s = some (v, s', r) → Up s s') := by
  intro fu
  induction fu with
  | zero => exact ⟨fun _ _ _ _ _ _ _ h => by simp [Zbl] at h, fun _ _ _ _ _ _ _ h => by simp [Zih, St.keep_eq] at h, fun _ _ _ _ _ h => by simp [Zii] at h, fun _ _ _ _ _ h => by simp [Zij] at h, fun _ _ _ _ _ _ _ _ _ h => by simp [Ze9, St.keep_eq] at h, fun _ _ _ _ _ _ _ h => by simp [Zkj] at h⟩
  | succ fu ih =>
    obtain ⟨ihC, ihO, ihP, ihF, ihD, ihE⟩ := ih
    refine ⟨fun nt c T s e T' s' h => ?_, fun nt ops l T s T' s' h => ?_, fun ρ o s v s' h => ?_, fun f args s v s' h => ?_, fun nt ops done l T s es T' s' h => ?_, fun xs ρ o s v s' r h => ?_⟩
    · cases c <;> simp only [Zbl] at h
      case skip => injection h with h; simp only [Prod.mk.injEq] at h; obtain ⟨_, _, rfl⟩ := h; exact Up.refl _
      case label l => injection h with h; simp only [Prod.mk.injEq] at h; obtain ⟨_, _, rfl⟩ := h; exact Up.refl _
      case scope c => exact ihC _ _ _ _ _ _ _ h
      case ret => injection h with h; simp only [Prod.mk.injEq] at h; obtain ⟨_, _, rfl⟩ := h; exact Up.refl _
      case exit id => injection h with h; simp only [Prod.mk.injEq] at h; obtain ⟨_, _, rfl⟩ := h; exact Up.refl _
      case seq a b =>
        split at h
        · exact (ihC _ _ _ _ _ _ _ (by assumption)).trans (ihC _ _ _ _ _ _ _ h)
        · injection h with h; simp only [Prod.mk.injEq] at h; obtain ⟨_, _, rfl⟩ := h; exact ihC _ _ _ _ _ _ _ (by assumption)
        · injection h with h; simp only [Prod.mk.injEq] at h; obtain ⟨_, _, rfl⟩ := h; exact ihC _ _ _ _ _ _ _ (by assumption)
        · cases h
      case cond x a b =>
        split at h
        · split at h
          · exact ihC _ _ _ _ _ _ _ h
          · exact ihC _ _ _ _ _ _ _ h
        · cases h
      case block id a =>
        split at h
        · rename_i i T1 s1 h1
          cases hb : Nat.beq i id <;> rw [hb] at h <;> (injection h with h; simp only [Prod.mk.injEq] at h; obtain ⟨_, _, rfl⟩ := h; exact ihC _ _ _ _ _ _ _ (by assumption))
        · injection h with h; simp only [Prod.mk.injEq] at h; obtain ⟨_, _, rfl⟩ := h; exact ihC _ _ _ _ _ _ _ (by assumption)
        · injection h with h; simp only [Prod.mk.injEq] at h; obtain ⟨_, _, rfl⟩ := h; exact ihC _ _ _ _ _ _ _ (by assumption)
        · cases h
      case loop a =>
        split at h
        · exact (ihC _ _ _ _ _ _ _ (by assumption)).trans (ihC _ _ _ _ _ _ _ h)
        · injection h with h; simp only [Prod.mk.injEq] at h; obtain ⟨_, _, rfl⟩ := h; exact ihC _ _ _ _ _ _ _ (by assumption)
        · injection h with h; simp only [Prod.mk.injEq] at h; obtain ⟨_, _, rfl⟩ := h; exact ihC _ _ _ _ _ _ _ (by assumption)
        · cases h
      case region id ops draw =>
        cases draw with
        | true =>
          simp only [cond_true] at h
          split at h
          · injection h with h; simp only [Prod.mk.injEq] at h; obtain ⟨_, _, rfl⟩ := h; exact ihD _ _ _ _ _ _ _ _ _ (by assumption)
          · cases h
        | false =>
          simp only [cond_false] at h
          split at h
          · injection h with h; simp only [Prod.mk.injEq] at h; obtain ⟨_, _, rfl⟩ := h; exact ihO _ _ _ _ _ _ _ (by assumption)
          · cases h
      all_goals cases h
    · cases l with
      | nil => simp only [Zih, St.keep_eq] at h; injection h with h; simp only [Prod.mk.injEq] at h; obtain ⟨_, rfl⟩ := h; exact Up.refl _
      | cons o l =>
        simp only [Zih, St.keep_eq] at h
        replace h := (Zp h).2
        split at h
        · split at h
          · exact (ZcK (by assumption)).trans ((ihP _ _ _ _ _ (by assumption)).trans (ihO _ _ _ _ _ _ _ h))
          · cases h
        · exact (ZcK (by assumption)).trans (ihO _ _ _ _ _ _ _ h)
        · cases h
    · simp only [Zii] at h
      split at h
      · split at h
        · split at h
          · split at h
            · exact (ZZ (by assumption)).trans (Z0t h)
            · cases h
            · exact (ZZ (by assumption)).trans (Z1s h)
          · exact Z2H h
          · exact hup _ _ (by assumption) _ _ _ _ h
          · split at h
            · exact (ZZ (by assumption)).trans (Z2K h)
            · cases h
          · exact up_fn h
          · exact ihF _ _ _ _ _ h
        · cases h
      · split at h
        · rename_i v1 s1 h1
          injection h with h
          exact (Z3m h1).trans (ZzI h)
        · cases h
    · simp only [Zij] at h
      split at h
      · split at h
        · replace h := (Zp h).2
          split at h
          · cases h
          · split at h
            · injection h with h; simp only [Prod.mk.injEq] at h; obtain ⟨_, rfl⟩ := h; exact ihC _ _ _ _ _ _ _ (by assumption)
            · injection h with h; simp only [Prod.mk.injEq] at h; obtain ⟨_, rfl⟩ := h; exact ihC _ _ _ _ _ _ _ (by assumption)
            · cases h
          · cases h
        · cases h
      · cases h
    · cases l with
      | nil => simp only [Ze9, St.keep_eq] at h; injection h with h; simp only [Prod.mk.injEq] at h; obtain ⟨_, _, rfl⟩ := h; exact Up.refl _
      | cons o l =>
        simp only [Ze9, St.keep_eq] at h
        replace h := (Zp h).2
        split at h
        · split at h
          · replace h := (Zp h).2
            exact (ZcK (by assumption)).trans ((ihE _ _ _ _ _ _ _ (by assumption)).trans (ihD _ _ _ _ _ _ _ _ _ h))
          · cases h
        · replace h := (Zp h).2
          exact (ZcK (by assumption)).trans (ihD _ _ _ _ _ _ _ _ _ h)
        · cases h
    · simp only [Zkj] at h
      split at h
      · split at h
        · rename_i v1 s1 h1
          obtain ⟨hg, h⟩ := Zp h
          injection h with h; simp only [Prod.mk.injEq] at h; obtain ⟨_, rfl, _⟩ := h
          have u := ihP _ _ _ _ _ h1
          obtain ⟨l, e1, e2⟩ := u.log
          simp only [List.append_nil] at e1
          refine ⟨u.n, u.ob, l, by rw [e1], fun k hk hn => ?_⟩
          show (Zf8 _ _ _).get k = _
          rw [ZdU]
          split
          · rfl
          · rename_i hm
            rw [e2 k hk hn]
            show (Zf8 _ _ _).get k = _
            rw [ZdU, if_neg hm]
        · cases h
      · replace h := (Zp h).2
        generalize (ZhY s ρ o).1 = w at h
        generalize (ZhY s ρ o).2 = t at h
        generalize Zm9 ρ o = q at h
        split at h
        · rename_i v1 s1 h1
          obtain ⟨hg, h⟩ := Zp h
          injection h with h; simp only [Prod.mk.injEq] at h; obtain ⟨_, rfl, _⟩ := h
          have u := ihP _ _ _ _ _ h1
          obtain ⟨l, e1, e2⟩ := u.log
          simp only [List.append_nil] at e1
          refine ⟨u.n, u.ob, l, by rw [e1], fun k hk hn => ?_⟩
          show (Tr.set _ _ _).get k = _
          rw [Tr.get_set]
          by_cases hkn : k = s.n
          · subst hkn
            rw [Zo]
            have hn' : ¬ s.n < s1.n := fun e => hn ⟨Nat.le_refl _, e⟩
            have : s1.n = s.n := by have := u.n; simp only at this; omega
            rw [ZkF this]
            rfl
          · rw [Zh hkn]
            cases w with
            | false => rfl
            | true =>
              simp only [cond_true]
              rw [ZdU]
              split
              · rename_i hm
                rw [e2 k hk hn, Zl3, if_pos (List.mem_append_left _ hm)]
              · rfl
        · cases h
end
section
variable {P : Program} {ext : FuncId → Option Ext}

def Ex.out : Ex → Exit
 | .normal => .normal
 | .exit id => .exit id
 | .ret => .ret
def TR (ι : Ren) (nt : Nat) (D : List Deferred) (T : Tr Value) (a : Act) : Prop := a.tmps.size = nt ∧ a.defers = D ∧ ∀ t, VR ι ((T.get t).getD undef) (a.tmps.getD t undef)
theorem TR.on {ι ι' : Ren} {nt : Nat} {D : List Deferred} {T : Tr Value} {a : Act} (h : TR ι nt D T a) (hi : ∀ k b, ι k = some b → ι' k = some b) : TR ι' nt D T a := ⟨h.1, h.2.1, fun t => (h.2.2 t).ext hi⟩
theorem VR.undef' {ι : Ren} : VR ι undef undef := VR.of_free rfl
theorem TR.put {ι : Ren} {nt : Nat} {D : List Deferred} {T : Tr Value} {a : Act} (h : TR ι nt D T a) {dst : Option Tmp} (hd : Zjh nt dst = true) {v v' : Value} (hv : VR ι v v') : TR ι nt D (Zgx T dst v) (a.put dst v') := by
 cases dst with
 | none => exact h
 | some d =>
  have hlt : d < a.tmps.size := by
   rw [h.1]
   simpa [Zjh, Nat.blt_eq] using hd
  refine ⟨by simp [Act.put, h.1], h.2.1, fun t => ?_⟩
  simp only [Zgx, Tr.get_set, Act.put]
  by_cases ht : t = d
  ·subst ht
   rw [Zo]
   simp [Array.getD, hlt]
   exact hv
  ·rw [Zh ht]
   have : (a.tmps.setIfInBounds d v').getD t undef = a.tmps.getD t undef := by
    simp [Array.getD_eq_getD_getElem?, Array.getElem?_setIfInBounds_ne (fun e => ht e.symm)]
   rw [this]
   exact h.2.2 t
def ZeD (a : Act) : Operand → Value
 | .const v => bif free v then v else undef
 | x => a.eval x
theorem TR.opnd {ι : Ren} {nt : Nat} {D : List Deferred} {T : Tr Value} {a : Act} (h : TR ι nt D T a) (x : Operand) : VR ι (Ev.opnd T x) (ZeD a x) := by
 cases x with
 | tmp t => exact h.2.2 t
 | const v =>
  simp only [Ev.opnd, ZeD]
  cases hf : free v
  ·exact VR.undef'
  ·exact VR.of_free hf
 | global g => exact .glob rfl
 | func f => exact .atom rfl
theorem Zl4 {a : Act} {o : Oper} (hs : ∀ cs b, o.op ≠ .select cs b) (hg : Z5 Zjo o.op.operands.toList = true) : execOp (ZeD a) o = execOp a.eval o :=
 execOp_congr o hs fun x hx => by
  have := ZaG hg x (by simpa using hx)
  cases x with
  | const v =>
   simp only [Zjo] at this
   simp [ZeD, this, Act.eval]
  | _ => rfl
theorem Zkl {a : Act} {x : Operand} {t : Bool} (h : ZeD a x = .bool t) : a.eval x = .bool t := by
 cases x with
 | const v =>
  simp only [ZeD] at h
  cases hf : free v <;> rw [hf] at h
  ·simp [undef] at h
  ·exact h
 | _ => exact h
theorem Zgz {ι : Ren} {T : Tr Value} {a : Act} {ops : Array Oper} {o : Oper} {s s' : St} {b : Bool} (h : ∀ t ∈ o.looksAt ops, VR ι ((T.get t).getD undef) (a.tmps.getD t undef)) (hw : ZgW ops T o s = some (b, s')) :
  Region.wanted o (yielded ops a.tmps) = b ∧ s'.h = s.h ∧ s'.n = s.n := by
 unfold ZgW at hw
 unfold Region.wanted
 split at hw
 ·rename_i hg
  injection hw with hw; injection hw with h1 h2; subst h1 h2
  rw [hg]
  exact ⟨rfl, rfl, rfl⟩
 ·rename_i j want hg
  rw [hg]
  simp only
  split at hw
  ·rename_i d hd
   have hv := h d (by unfold Oper.looksAt; rw [hg]; simp [hd])
   split at hw
   ·rename_i q hq
    rw [hq] at hv
    have hv' := hv.bool_inv
    have hget : a.tmps[d]? = some (.bool q) := by
     simp only [Array.getD_eq_getD_getElem?] at hv'
     cases hx : a.tmps[d]? with
     | none => rw [hx] at hv'; simp [undef] at hv'
     | some u => rw [hx] at hv'; simpa using hv'
    have hy : yielded ops a.tmps j = some q := by
     unfold yielded
     rw [hd]
     simp [hget]
    rw [hy]
    injection hw with hw; injection hw with h1 h2; subst h1 h2
    exact ⟨by cases q <;> cases want <;> rfl, rfl, rfl⟩
   ·rename_i u hq
    injection hw with hw; injection hw with h1 h2; subst h1 h2
    rw [hq] at hv
    refine ⟨?_, rfl, rfl⟩
    have hy : yielded ops a.tmps j = none := by
     unfold yielded
     rw [hd]
     simp only [Option.bind_some]
     split
     ·rename_i c hc
      exfalso
      simp only [Array.getD_eq_getD_getElem?, hc, Option.getD_some] at hv
      cases hv
     ·rfl
    rw [hy]
    rfl
   ·cases hw
  ·cases hw
def ZmF (tmps : Array Value) : ResultVar → Sem Value
 | .tmp t => pure (tmps.getD t undef)
 | .cell b t => do loadVar t (← asAddr (tmps.getD b undef))
theorem ZjA {ι : Ren} {nt : Nat} {D : List Deferred} {T : Tr Value} {a : Act} {s : St} {w : World} (h : TR ι nt D T a) (he : Emb P ι s.h.get w) : ∀ (rs : List ResultVar) (l : List Value), Zdr P T s rs = some l →
  ∃ l' : List Value, (rs.mapM (ZmF a.tmps)).run P w = .ok l' w ∧ l.length = l'.length ∧ ∀ (i : Nat) x y, l[i]? = some x → l'[i]? = some y → VR ι x y
 | [], l, hr => by
  simp only [Zdr, Option.some.injEq] at hr
  subst hr
  exact ⟨[], by simp [Sem.run], rfl, fun i x y hx => by simp at hx⟩
 | .tmp t :: rs, l, hr => by
  simp only [Zdr] at hr
  split at hr
  ·rename_i r hr'
   injection hr with hr
   subst hr
   obtain ⟨l', h1, h2, h3⟩ := ZjA h he rs r hr'
   refine ⟨a.tmps.getD t undef :: l', ?_, by simp [h2], fun i x y hx hy => ?_⟩
   ·have e0 : (ZmF a.tmps (.tmp t)).run P w = .ok (a.tmps.getD t undef) w := rfl
    simp only [List.mapM_cons, Sem.run_bind, e0, Result.andThen, h1]
    rfl
   ·cases i with
    | zero => simp at hx hy; subst hx hy; simpa using h.2.2 t
    | succ i => exact h3 i x y (by simpa using hx) (by simpa using hy)
  ·cases hr
 | .cell b t :: rs, l, hr => by
  simp only [Zdr] at hr
  split at hr
  ·rename_i k o hb
   split at hr
   ·rename_i u r hu hr'
    injection hr with hr
    subst hr
    obtain ⟨l', h1, h2, h3⟩ := ZjA h he rs r hr'
    obtain ⟨bk, v', hbk, hrun, hv⟩ := ZnS he hu
    have hp := h.2.2 b
    rw [hb] at hp
    obtain ⟨bk', hbk', hp'⟩ := hp.ptr_inv
    rw [hbk] at hbk'; injection hbk' with hbk'; subst hbk'
    refine ⟨v' :: l', ?_, by simp [h2], fun i x y hx hy => ?_⟩
    ·have e0 : (ZmF a.tmps (.cell b t)).run P w = .ok v' w := by
      simp [ZmF, hp', asAddr, hrun, -Array.getD_eq_getD_getElem?]
     simp only [List.mapM_cons, Sem.run_bind, e0, Result.andThen, h1]
     rfl
    ·cases i with
     | zero => simp at hx hy; subst hx hy; exact hv
     | succ i => exact h3 i x y (by simpa using hx) (by simpa using hy)
   ·cases hr
  ·cases hr
theorem Zma {ι : Ren} {nt : Nat} {D : List Deferred} {T : Tr Value} {a : Act} {s : St} {w : World} {fn : Func} {v : Value} (h : TR ι nt D T a) (he : Emb P ι s.h.get w)
  (hr : (match Zdr P T s fn.results.toList with | some [v] => some v | some vs => some (.tuple vs.toArray) | none => none) = some v) : ∃ v', (results fn a.tmps).run P w = .ok v' w ∧ VR ι v v' := by
 have hR : results fn a.tmps = (do let vs ← fn.results.mapM (ZmF a.tmps); pure (if h : vs.size = 1 then vs[0] else .tuple vs)) := rfl
 cases hx : Zdr P T s fn.results.toList with
 | none => rw [hx] at hr; cases hr
 | some l =>
  rw [hx] at hr
  obtain ⟨l', h1, h2, h3⟩ := ZjA h he fn.results.toList l hx
  have hA : (fn.results.mapM (ZmF a.tmps)).run P w = .ok l'.toArray w := by
   rw [Array.mapM_eq_mapM_toList]
   simp [h1]
  rw [hR]
  rcases l with _ | ⟨x, _ | ⟨y, l⟩⟩
  ·injection hr with hr
   subst hr
   have : l' = [] := List.eq_nil_of_length_eq_zero (by simpa using h2.symm)
   subst this
   exact ⟨.tuple #[], by simp [hA], .tuple rfl fun i x y hx => by simp at hx⟩
  ·injection hr with hr
   subst hr
   rcases l' with _ | ⟨x', _ | ⟨y', l'⟩⟩
   ·simp at h2
   ·exact ⟨x', by simp [hA], h3 0 x x' rfl rfl⟩
   ·simp at h2
  ·injection hr with hr
   subst hr
   have hne : ¬ l'.length = 1 := by simp at h2; omega
   exact ⟨.tuple l'.toArray, by simp [hA, hne], .tuple (by simpa using h2) fun i x y hx hy => h3 i x y (by simpa using hx) (by simpa using hy)⟩
end
section
variable {P : Program} {ext : FuncId → Option Ext}

theorem Zfj {f : FuncId} {fn : Func} {c : Code} (hf : P.funcs[f]? = some fn) (hn : (fn.name == "runtime.NumGoroutine") = false) (hb : fn.body = some c) (args : Array Value) (w : World) :
  (callFunc f args).run P w = .ok (.enter f args) w := by
 have h1 : fn.name ≠ "runtime.NumGoroutine" := by simpa using hn
 simp [callFunc, hf, h1, hb]
theorem Z2L {ι : Ren} {s : St} {w : World} (he : Emb P ι s.h.get w) {k o : Nat} {kk : IntKind} {v : Int} (h : rowAt s k o 1 = some [.int kk v]) : ∃ b C t, ι k = some b ∧ Cel w.heap[b.1]? C t ∧ w.cell? ⟨b.1, o, none⟩ = some (.int kk v) ∧ w.frozen? ⟨b.1, o, none⟩ = false := by
 obtain ⟨b, C, t, hb, hB, hl, hx⟩ := Znq he h
 obtain ⟨y, hy, hv⟩ := hx 0 _ rfl
 obtain ⟨fr, hB', hu⟩ := hB.unf
 refine ⟨b, C, t, hb, hB, ?_, Z0V hB' hu (Array.getElem?_eq_some_iff.1 hy).1⟩
 rw [ZwQ hB]
 simpa [hv.int_inv] using hy
theorem Zul {w : World} {b o : Nat} {C : Array Value} {t : TypeId} {x : Value} {fr : Nat × Nat} (hB : w.heap[b]? = some (.cells C t fr)) (ho : o < C.size) : w.setRow b (C.toList.take o ++ [x] ++ C.toList.drop (o + 1)).toArray = w.setCell ⟨b, o, none⟩ x := by
 have e : (C.toList.take o ++ [x] ++ C.toList.drop (o + 1)).toArray = C.setIfInBounds o x := by
  apply Array.ext'
  simp only [Array.toList_setIfInBounds]
  rw [List.set_eq_take_append_cons_drop, if_pos (by simpa using ho)]
  simp
 rw [e]
 unfold World.setRow World.setCell
 congr 1
 apply Array.ext
 ·simp
 ·intro i h1 h2
  simp only [Array.getElem_modify]
  split
  ·rename_i hi
   subst hi
   have hlt : b < w.heap.size := (Array.getElem?_eq_some_iff.1 hB).1
   have : w.heap[b] = .cells C t fr := by
    have := Array.getElem?_eq_getElem hlt
    rw [hB] at this
    exact (Option.some.inj this).symm
   simp [this]
  ·rfl
theorem Zpj {ι : Ren} {s s' : St} {w : World} (he : Emb P ι s.h.get w) {k o : Nat} {x : Int} {kk : IntKind} (h : Zdg s k o [.int kk x] = some s') {b : Nat × Nat} (hb : ι k = some b) :
  Step P ι s.h.get w ι s'.h.get (w.setCell ⟨b.1, o, none⟩ (.int kk x)) ∧ s'.n = s.n := by
 obtain ⟨b2, w', hb2, _, hstep, hn, ⟨C, t, hB, hfit, hw⟩, _⟩ := Zj9 he (c := #[.int kk x]) h rfl (fun i a b h1 h2 => by
  rcases i with _ | i
  ·simp at h1 h2; subst h1 h2; exact .atom rfl
  ·simp at h1)
 rw [hb] at hb2; injection hb2 with hb2; subst hb2
 have ho : o < C.size := by simp at hfit; omega
 have : w' = w.setCell ⟨b.1, o, none⟩ (.int kk x) := by
  rw [hw]
  obtain ⟨fr, hB', _⟩ := hB.unf
  exact Zul hB' ho
 rw [← this]
 exact ⟨hstep, hn⟩
theorem Z0z (F : Fit P ext) {f n : Nat} (hx : ext f = some (.mark n)) {ι : Ren} {w : World} {s s' : St} {args args' : Array Value} {v : Value} (ha : VRs ι args args') (he : Emb P ι s.h.get w) (h : ZoU n args s = some (v, s')) :
  Res P ((callFunc f args').run P w) s ι w v s' := by
 obtain ⟨fn, hf, hb, hn, hk⟩ := F.mark f n hx
 have hname := F.go f fn hf
 unfold ZoU at h
 split at h
 ·rename_i hargs
  injection h with h; injection h with h1 h2; subst h1 h2
  have hA : args' = #[] := by
   have := ha.1
   rw [← Array.length_toList, hargs] at this
   exact Array.eq_empty_of_size_eq_zero this.symm
  rcases hk with ⟨_, m, hk⟩ | ⟨h, _⟩
  ·exact Res.same he (v' := .tuple #[]) (by rw [hA]; exact run_call_mark0 hf hname hb hn m hk w) (VR.of_free rfl)
  ·omega
 ·rename_i k o hargs
  injection h with h; injection h with h1 h2; subst h1 h2
  have hsz : args'.size = 1 := by rw [← ha.1, ← Array.length_toList, hargs]; rfl
  have h0 : args[0]? = some (.pointer (some ⟨k, o, none⟩)) := by
   have : args.toList[0]? = some (.pointer (some ⟨k, o, none⟩)) := by rw [hargs]; rfl
   simpa using this
  have hv := ha.2 0 _ args'[0] h0 (Array.getElem?_eq_getElem (by omega))
  obtain ⟨b, hb2, hp⟩ := hv.ptr_inv
  have hA : args' = #[.pointer (some ⟨b.1, o, none⟩)] := by
   apply Array.ext (by simpa using hsz)
   intro i h3 h4
   have : i = 0 := by omega
   subst this
   simpa using hp
  rcases hk with ⟨h, _⟩ | ⟨_, m, hk⟩
  ·omega
  ·exact Res.same he (v' := .tuple #[]) (by rw [hA]; exact run_call_marked hf hname hb hn m hk _ w) (VR.of_free rfl)
 ·cases h
theorem Zpk (F : Fit P ext) {f e : Nat} {kk : IntKind} (hx : ext f = some (.at kk e)) {ι : Ren} {w : World} {s s' : St} {args args' : Array Value} {v : Value} (ha : VRs ι args args') (he : Emb P ι s.h.get w) (ho : ∀ p ∈ s'.ob, p.1 = p.2) (h : Zej kk e args s = some (v, s')) :
  Res P ((callFunc f args').run P w) s ι w v s' := by
 obtain ⟨fn, hf, hb, hn, hk⟩ := F.ext f kk e hx
 have hname := F.go f fn hf
 clear hx
 have get : ∀ {i : Nat} {x : Value}, args.toList[i]? = some x → ∃ y, args'[i]? = some y ∧ VR ι x y := fun {i x} hi => by
  have hi' : args[i]? = some x := by simpa using hi
  have hlt : i < args'.size := by rw [← ha.1]; exact (Array.getElem?_eq_some_iff.1 hi').1
  exact ⟨args'[i], Array.getElem?_eq_getElem hlt, ha.2 i x _ hi' (Array.getElem?_eq_getElem hlt)⟩
 have arr : ∀ {l : List Value}, args'.size = l.length → (∀ (i : Nat) (y : Value), l[i]? = some y → args'[i]? = some y) → args' = l.toArray := fun {l} h1 h2 => by
  apply Array.ext (by simpa using h1)
  intro i h3 h4
  have := h2 i l[i] (List.getElem?_eq_getElem (by simpa using h4))
  rw [Array.getElem?_eq_getElem h3] at this
  simpa using Option.some.inj this
 unfold Zej at h
 split at h
 ·rename_i k o r hargs
  split at h
  ·rename_i ck vv hrow
   split at h
   ·rename_i hck
    subst hck
    obtain ⟨b, C, t, hbk, hB, hc, hz⟩ := Z2L he hrow
    obtain ⟨y0, hy0, hv0⟩ := get (i := 0) (by rw [hargs]; rfl)
    obtain ⟨b', hb', rfl⟩ := hv0.ptr_inv
    rw [hbk] at hb'; injection hb' with hb'; subst hb'
    have hsz : args'.size = r.length + 1 := by rw [← ha.1, ← Array.length_toList, hargs]; rfl
    split at h
    ·injection h with h; injection h with h1 h2; subst h1 h2
     have hA : args' = #[.pointer (some ⟨b.1, o, none⟩)] := arr (l := [_]) (by simpa using hsz) fun i y hi => by
      rcases i with _ | i
      ·simp at hi; subst hi; exact hy0
      ·simp at hi
     rcases hk with ⟨_, hk⟩ | ⟨h, _⟩ | ⟨h, _⟩ | ⟨h, _⟩ <;> try omega
     exact Res.same he (v' := .int ck vv) (by rw [hA]; exact run_call_load hf hname hb hn _ hk hc) (.atom rfl)
    ·rename_i xk x
     split at h
     ·rename_i hxk
      subst hxk
      split at h
      ·rename_i s1 hw
       injection h with h; injection h with h1 h2; subst h1 h2
       obtain ⟨y1, hy1, hv1⟩ := get (i := 1) (by rw [hargs]; rfl)
       have := hv1.int_inv
       subst this
       have hA : args' = #[.pointer (some ⟨b.1, o, none⟩), .int _ x] := arr (l := [_, _]) (by simpa using hsz) fun i y hi => by
        rcases i with _ | _ | i
        ·simp at hi; subst hi; exact hy0
        ·simp at hi; subst hi; exact hy1
        ·simp at hi
       rcases hk with ⟨h, _⟩ | ⟨_, hk⟩ | ⟨h, _⟩ | ⟨h, _⟩ <;> try omega
       obtain ⟨q1, q2⟩ := Zpj he hw hbk
       exact ⟨_, _, ι, .tuple #[], by rw [hA]; exact run_call_store hf hname hb hn hk hc hz, .inl rfl, q1, q2 ▸ Dom.refl, VR.of_free rfl⟩
      ·cases h
     ·cases h
    ·rename_i xk d
     split at h
     ·rename_i hxk
      subst hxk
      split at h
      ·rename_i s1 hw
       injection h with h; injection h with h1 h2; subst h1 h2
       obtain ⟨y1, hy1, hv1⟩ := get (i := 1) (by rw [hargs]; rfl)
       have := hv1.int_inv
       subst this
       have hA : args' = #[.pointer (some ⟨b.1, o, none⟩), .int _ d] := arr (l := [_, _]) (by simpa using hsz) fun i y hi => by
        rcases i with _ | _ | i
        ·simp at hi; subst hi; exact hy0
        ·simp at hi; subst hi; exact hy1
        ·simp at hi
       rcases hk with ⟨h, _⟩ | ⟨h, _⟩ | ⟨_, hk⟩ | ⟨h, _⟩ <;> try omega
       obtain ⟨q1, q2⟩ := Zpj he hw hbk
       exact ⟨_, _, ι, .int _ _, by rw [hA]; exact run_call_add hf hname hb hn _ hk hc hz (by simp [Op.intArith]), .inl rfl, q1, q2 ▸ Dom.refl, .atom rfl⟩
      ·cases h
     ·cases h
    ·rename_i xk x yk y
     split at h
     ·rename_i hxy
      obtain ⟨hxk, hyk⟩ := hxy
      subst hxk
      subst hyk
      obtain ⟨y1, hy1, hv1⟩ := get (i := 1) (by rw [hargs]; rfl)
      have := hv1.int_inv
      subst this
      obtain ⟨y2, hy2, hv2⟩ := get (i := 2) (by rw [hargs]; rfl)
      have := hv2.int_inv
      subst this
      have hA : args' = #[.pointer (some ⟨b.1, o, none⟩), .int _ x, .int _ y] := arr (l := [_, _, _]) (by simpa using hsz) fun i z hi => by
       rcases i with _ | _ | _ | i
       ·simp at hi; subst hi; exact hy0
       ·simp at hi; subst hi; exact hy1
       ·simp at hi; subst hi; exact hy2
       ·simp at hi
      rcases hk with ⟨h, _⟩ | ⟨h, _⟩ | ⟨h, _⟩ | ⟨_, hk⟩ <;> try omega
      split at h
      ·rename_i s1 hs
       split at h
       ·rename_i s2 hw
        injection h with h; injection h with h1 h2; subst h1 h2
        obtain ⟨e1, e2, e3⟩ := ZoX hs (Zd9 (Zcg hw).ob ho)
        have hvx : vv = x := by simpa using e1.symm
        subst hvx
        obtain ⟨q1, q2⟩ := Zpj (e2 ▸ he) hw hbk
        exact ⟨_, _, ι, .bool true, by rw [hA]; exact run_call_cas_hit hf hname hb hn _ hk hc hz, .inl rfl, e2 ▸ q1, (q2.trans e3) ▸ Dom.refl, .atom rfl⟩
       ·cases h
      ·rename_i s1 hs
       injection h with h; injection h with h1 h2; subst h1 h2
       obtain ⟨e1, e2, e3⟩ := ZoX hs ho
       have hvx : vv ≠ x := by simpa using e1.symm
       exact Res.heap (s := s1) (Res.same (e2 ▸ he) (v' := .bool false) (by rw [hA]; exact run_call_cas_miss hf hname hb hn _ hk hc hz hvx) (.atom rfl)) e2.symm e3.symm
     ·cases h
    ·cases h
   ·cases h
  ·cases h
 ·cases h
theorem Z00 {kk : IntKind} {e : Nat} {args : Array Value} {z : Int} {c' : List Value} {s s' : St} {v : Value} (hob : ∀ p ∈ s'.ob, p.1 = p.2) (h : Zjq kk e args z c' s = some (v, s')) (hw : s.orc.w = s.orc.w) :
  ∃ s0 s1, Zej kk e args s0 = some (v, s1) ∧ s0.h = s.h ∧ s0.n = s.n ∧ s'.h = s1.h ∧ s'.n = s1.n ∧ ∀ p ∈ s1.ob, p.1 = p.2 := by
 unfold Zjq at h
 split at h
 ·rename_i k o r hargs
  split at h
  ·rename_i c t hk
   split at h
   ·injection h with h
    injection h with h1 h2
    subst h1 h2
    have q := Zac.1 (hob (_, true) List.mem_cons_self)
    refine ⟨s, s, ?_, rfl, rfl, rfl, rfl, fun p hp => hob p (List.mem_cons_of_mem _ hp)⟩
    unfold Zej
    rw [hargs]
    simp only [rowAt, hk, q, if_true]
   ·rename_i xk x
    split at h
    ·rename_i hxk
     subst hxk
     injection h with h
     injection h with h1 h2
     subst h1 h2
     obtain ⟨q, q1, q2⟩ := Zac.1 (hob (_, true) List.mem_cons_self)
     refine ⟨s, s.putK k c' t, ?_, rfl, rfl, rfl, rfl, fun p hp => hob p (List.mem_cons_of_mem _ hp)⟩
     unfold Zej
     rw [hargs]
     simp only [rowAt, hk, q, if_true, Zdg, List.length_cons, List.length_nil, Nat.zero_add, Nat.ble_eq_true_of_le q1, Z5, Zbw, Bool.not_false, Bool.true_or, Bool.and_self, cond_true, q2]
    ·cases h
   ·rename_i xk d
    split at h
    ·rename_i hxk
     subst hxk
     injection h with h
     injection h with h1 h2
     subst h1 h2
     obtain ⟨q, q1, q2⟩ := Zac.1 (hob (_, true) List.mem_cons_self)
     refine ⟨s, s.putK k c' t, ?_, rfl, rfl, rfl, rfl, fun p hp => hob p (List.mem_cons_of_mem _ hp)⟩
     unfold Zej
     rw [hargs]
     simp only [rowAt, hk, q, if_true, Zdg, List.length_cons, List.length_nil, Nat.zero_add, Nat.ble_eq_true_of_le q1, Z5, Zbw, Bool.not_false, Bool.true_or, Bool.and_self, cond_true, q2]
    ·cases h
   ·rename_i xk x yk y
    split at h
    ·rename_i hxy
     obtain ⟨hxk, hyk⟩ := hxy
     subst hxk
     subst hyk
     generalize hs0 : s.told (dP (ZO 1 (c.drop o) = some [.int _ z])) = s0 at h
     have e0 : s0.h = s.h := by rw [← hs0]; rfl
     have en : s0.n = s.n := by rw [← hs0]; rfl
     have em : (dP (ZO 1 (c.drop o) = some [.int yk z]), true) ∈ s0.ob := by rw [← hs0]; exact List.mem_cons_self
     split at h
     ·rename_i s1 hs
      injection h with h
      injection h with h1 h2
      subst h1 h2
      have ho1 : ∀ p ∈ s1.ob, p.1 = p.2 := fun p hp => hob p (List.mem_cons_of_mem _ hp)
      obtain ⟨q1, q2⟩ := Zac.1 (hob (_, true) List.mem_cons_self)
      obtain ⟨e1, e2, e3⟩ := ZoX hs ho1
      have q := Zac.1 (ho1 (_, true) ((Zjy hs).ob.subset em))
      refine ⟨s0, s1.putK k c' t, ?_, e0, en, rfl, rfl, ho1⟩
      unfold Zej
      rw [hargs]
      have hk1 : s1.h.get k = some (.cells c t) := by rw [e2, e0]; exact hk
      simp only [rowAt, e0, hk, q, and_self, if_true, hs, Zdg, hk1, List.length_cons, List.length_nil, Nat.zero_add, Nat.ble_eq_true_of_le q1, Z5, Zbw, Bool.not_false, Bool.true_or, Bool.and_self, cond_true, q2]
     ·rename_i s1 hs
      injection h with h
      injection h with h1 h2
      subst h1 h2
      have q := Zac.1 (hob (_, true) ((Zjy hs).ob.subset em))
      refine ⟨s0, s1, ?_, e0, en, rfl, rfl, hob⟩
      unfold Zej
      rw [hargs]
      simp only [rowAt, e0, hk, q, and_self, if_true, hs]
    ·cases h
   ·cases h
  ·cases h
 ·cases h
end
noncomputable section
section
variable {P : Program} {ext : FuncId → Option Ext}

/-! ### What an operation turns -/
def Dk (r : Rec) (k : Nat) : Bool := (r.w && ZoW k r.t) || (Nat.ble r.n0 k && Nat.blt k r.n1)
def Kof (e : Ent) : AH := if e.r.small then (Zl0 e.s.h (e.r.t ++ e.r.q)).get else (Zf8 .nil e.r.q e.s.h).get
def Zxp (e : Ent) : AH := fun k => if Dk e.r k then e.s'.h.get k else Kof e k
theorem ZkK {k : Nat} : ∀ {l : List Nat}, ZoW k l = true ↔ k ∈ l
 | [] => by simp [ZoW]
 | x :: l => by
  simp only [ZoW, Bool.or_eq_true, List.mem_cons, ZkK (l := l)]
  constructor
  ·rintro (h | h)
   ·exact .inl (Nat.eq_of_beq_eq_true h)
   ·exact .inr h
  ·rintro (h | h)
   ·exact .inl (ZkF h)
   ·exact .inr h
theorem Zdx {a b : List Nat} (h : Zif a b = true) {k : Nat} (ha : k ∈ a) (hb : k ∈ b) : False := by
 have := ZaG h k ha
 rw [ZkK.2 hb] at this
 cases this
theorem ZfW {n0 n1 : Nat} {l : List Nat} (h : ZmA n0 n1 l = true) {k : Nat} (hk : k ∈ l) (h1 : n0 ≤ k) (h2 : k < n1) : False := by
 have := ZaG h k hk
 rw [Nat.ble_eq_true_of_le h1, show Nat.blt k n1 = true from Nat.ble_eq_true_of_le h2] at this
 cases this
theorem Zfk {r : Rec} {k : Nat} : Dk r k = true ↔ (r.w = true ∧ k ∈ r.t) ∨ (r.n0 ≤ k ∧ k < r.n1) := by
 unfold Dk
 simp only [Bool.or_eq_true, Bool.and_eq_true, ZkK]
 constructor
 ·rintro (h | ⟨h1, h2⟩)
  ·exact .inl h
  ·exact .inr ⟨Nat.le_of_ble_eq_true h1, Nat.le_of_ble_eq_true h2⟩
 ·rintro (h | ⟨h1, h2⟩)
  ·exact .inl h
  ·exact .inr ⟨Nat.ble_eq_true_of_le h1, Nat.ble_eq_true_of_le h2⟩
structure Ztb (r : Rec) : Prop where
 lt : ∀ k ∈ r.t, k < r.n0
 ltq : ∀ k ∈ r.q, k < r.n0
 le : r.n0 ≤ r.n1
 big : r.small = false → r.w = true
 qt : r.small = false → ∀ k ∈ r.t, k ∉ r.q
def Zxq (a b : Rec) : Prop := (a.small = true → ∀ k ∈ a.t ++ a.q, Dk b k = false) ∧ (a.small = false → ∀ k, k < a.n0 → k ∉ a.q → Dk b k = false)
theorem ZyT {a b : Rec} (h : ZsP a b = true) (ha : Ztb a) (hb : Ztb b) (hab : a.n1 ≤ b.n0) : Zxq a b ∧ Zxq b a ∧ ∀ k, Dk a k = true → Dk b k = true → False := by
 have la := ha.le
 have lb := hb.le
 unfold ZsP at h
 have nd : ∀ {r : Rec} {k : Nat}, ¬ ((r.w = true ∧ k ∈ r.t) ∨ (r.n0 ≤ k ∧ k < r.n1)) → Dk r k = false := fun {r k} hn => by
  cases hd : Dk r k
  ·rfl
  ·exact absurd (Zfk.1 hd) hn
 split at h
 ·rename_i h1 h2
  simp only [Bool.and_eq_true, Bool.or_eq_true] at h
  obtain ⟨⟨hw, hn⟩, ⟨hq1, hq2⟩, hnq⟩ := h
  have conf : ∀ k, k ∈ a.t → k ∈ b.t → a.w = true ∨ b.w = true → False := fun k k1 k2 k3 => by
   rcases hw with hw | hw
   ·rcases k3 with k3 | k3 <;> rw [k3] at hw <;> simp at hw
   ·exact Zdx hw k1 k2
  refine ⟨⟨fun _ k hk => nd ?_, fun e => absurd (h1.symm.trans e) (by decide)⟩, ⟨fun _ k hk => nd ?_, fun e => absurd (h2.symm.trans e) (by decide)⟩, fun k k1 k2 => ?_⟩
  ·rcases List.mem_append.1 hk with hk | hk
   ·rintro (⟨q1, q2⟩ | ⟨q1, q2⟩)
    ·exact conf k hk q2 (.inr q1)
    ·have := ha.lt k hk; omega
   ·rintro (⟨q1, q2⟩ | ⟨q1, q2⟩)
    ·rcases hq1 with h | h
     ·rw [q1] at h; simp at h
     ·exact Zdx h hk q2
    ·have := ha.ltq k hk; omega
  ·rcases List.mem_append.1 hk with hk | hk
   ·rintro (⟨q1, q2⟩ | ⟨q1, q2⟩)
    ·exact conf k q2 hk (.inl q1)
    ·exact ZfW hn hk q1 q2
   ·rintro (⟨q1, q2⟩ | ⟨q1, q2⟩)
    ·rcases hq2 with h | h
     ·rw [q1] at h; simp at h
     ·exact Zdx h q2 hk
    ·exact ZfW hnq hk q1 q2
  ·rcases Zfk.1 k1 with ⟨q1, q2⟩ | ⟨q1, q2⟩ <;> rcases Zfk.1 k2 with ⟨r1, r2⟩ | ⟨r1, r2⟩
   ·exact conf k q2 r2 (.inl q1)
   ·have := ha.lt k q2; omega
   ·exact ZfW hn r2 q1 q2
   ·omega
 ·rename_i h1 h2
  simp only [Bool.and_eq_true, Bool.not_eq_true', Bool.or_eq_true] at h
  obtain ⟨⟨⟨hw, hn⟩, hap⟩, haq⟩ := h
  have na : ∀ k, Dk a k = true → (k ∈ b.q ∧ a.n0 ≤ k ∧ k < a.n1 ∧ k ∉ b.t) := fun k hd => by
   rcases Zfk.1 hd with ⟨q1, q2⟩ | ⟨q1, q2⟩
   ·rw [hw] at q1; cases q1
   ·rcases hn with hn | ⟨⟨h3, h4⟩, h5⟩
    ·have := Nat.eq_of_beq_eq_true hn; omega
    ·have h4 := Nat.le_of_ble_eq_true h4
     obtain rfl : k = a.n0 := by omega
     exact ⟨ZkK.1 h3, q1, q2, fun hb => ZfW h5 hb q1 q2⟩
  have nb : ∀ k, k ∉ b.q → Dk a k = false := fun k hk => by
   cases hd : Dk a k
   ·rfl
   ·exact absurd (na k hd).1 hk
  refine ⟨⟨fun _ k hk => nd ?_, fun e => absurd (h1.symm.trans e) (by decide)⟩, ⟨fun e => absurd (h2.symm.trans e) (by decide), fun _ k _ hk => nb k hk⟩, fun k k1 k2 => ?_⟩
  rotate_left
  ·obtain ⟨_, q1, q2, q3⟩ := na k k1
   rcases Zfk.1 k2 with ⟨_, r2⟩ | ⟨r1, r2⟩
   ·exact q3 r2
   ·omega
  rcases List.mem_append.1 hk with hk | hk
  ·rintro (⟨q1, q2⟩ | ⟨q1, q2⟩)
   ·exact Zdx hap hk q2
   ·have := ha.lt k hk; omega
  ·rintro (⟨q1, q2⟩ | ⟨q1, q2⟩)
   ·exact Zdx haq hk q2
   ·have := ha.ltq k hk; omega
 ·rename_i h1 h2
  simp only [Bool.and_eq_true, Bool.not_eq_true'] at h
  obtain ⟨⟨⟨hw, hap⟩, hn⟩, haq, hnq⟩ := h
  refine ⟨⟨fun e => absurd (h1.symm.trans e) (by decide), fun _ k hk _ => nd ?_⟩, ⟨fun _ k hk => nd ?_, fun e => absurd (h2.symm.trans e) (by decide)⟩, fun k k1 k2 => ?_⟩
  ·rintro (⟨q1, q2⟩ | ⟨q1, q2⟩)
   ·rw [hw] at q1; cases q1
   ·omega
  ·rcases List.mem_append.1 hk with hk | hk
   ·rintro (⟨q1, q2⟩ | ⟨q1, q2⟩)
    ·exact Zdx hap q2 hk
    ·exact ZfW hn hk q1 q2
   ·rintro (⟨q1, q2⟩ | ⟨q1, q2⟩)
    ·exact Zdx haq q2 hk
    ·exact ZfW hnq hk q1 q2
  ·rcases Zfk.1 k2 with ⟨r1, r2⟩ | ⟨r1, r2⟩
   ·rw [hw] at r1; cases r1
   ·rcases Zfk.1 k1 with ⟨q1, q2⟩ | ⟨q1, q2⟩
    ·have := ha.lt k q2; omega
    ·omega
 ·cases h
end
end
section
variable {P : Program} {ext : FuncId → Option Ext}

structure EntOk (P : Program) (ext : FuncId → Option Ext) (nt fu : Nat) (ops : Array Oper) (before : List Ent) (T T' : Tr Value) (s s' : St) (e : Ent) : Prop where
 eT : e.T = T
 eT' : T' = Zgx T e.o.dst e.v
 es' : s' = e.s'
 dst : Zjh nt e.o.dst = true
 good : Z5 Zjo e.o.op.operands.toList = true
 edges : ZmB before.length e.o.after.toList = true
 em : e.m = Zds before e.o.after.toList
 pairs : Zku ops e.o e.r e.m 0 before = true
 run : ∃ b, ZgW ops T e.o s = some (b, e.s) ∧ (b = true → ∃ fu', fu' < fu ∧ ∃ xs, Zkj P ext fu' xs (opnd (Zq3 T (Zig e.o.op.operands.toList))) e.o e.s = some (e.v, e.s', e.r)) ∧ (b = false → e.v = undef ∧ e.s' = e.s ∧ e.r = Zj8 e.s)
theorem EntOk.fuel {nt fu fu1 : Nat} {ops : Array Oper} {before : List Ent} {T T' : Tr Value} {s s' : St} {e : Ent} (h : EntOk P ext nt fu ops before T T' s s' e) (hf : fu ≤ fu1) : EntOk P ext nt fu1 ops before T T' s s' e :=
 ⟨h.eT, h.eT', h.es', h.dst, h.good, h.edges, h.em, h.pairs, by
  obtain ⟨b, h1, h2, h3⟩ := h.run
  exact ⟨b, h1, fun hb => (by obtain ⟨fu', h4, h5⟩ := h2 hb; exact ⟨fu', Nat.lt_of_lt_of_le h4 hf, h5⟩), h3⟩⟩
theorem Ztc (nt : Nat) (ops : Array Oper) : ∀ (fu : Nat) (l : List Oper) (done : List Ent) (T : Tr Value) (s : St) (es : List Ent) (T' : Tr Value) (s' : St), Ze9 P ext nt fu ops done l T s = some (es, T', s') →
  ∃ (es2 : List Ent) (σ : Nat → St) (τ : Nat → Tr Value), es = done ++ es2 ∧ es2.map (·.o) = l ∧ σ 0 = s ∧ τ 0 = T ∧ σ l.length = s' ∧ τ l.length = T' ∧
   ∀ (i : Nat) (e : Ent), es2[i]? = some e → EntOk P ext nt fu ops (done ++ es2.take i) (τ i) (τ (i + 1)) (σ i) (σ (i + 1)) e
 | 0, _, _, _, _, _, _, _, h => by simp [Ze9, St.keep_eq] at h
 | fu + 1, [], done, T, s, es, T', s', h => by
  simp only [Ze9, St.keep_eq] at h
  injection h with h
  simp only [Prod.mk.injEq] at h
  obtain ⟨rfl, rfl, rfl⟩ := h
  exact ⟨[], fun _ => s, fun _ => T, by simp, rfl, rfl, rfl, rfl, rfl, fun i e hi => by simp at hi⟩
 | fu + 1, o :: l, done, T, s, es, T', s', h => by
  simp only [Ze9, St.keep_eq] at h
  obtain ⟨hg, h⟩ := Zp h
  simp only [Bool.and_eq_true] at hg
  have go : ∀ (e1 : Ent), EntOk P ext nt (fu + 1) ops done T (Zgx T e1.o.dst e1.v) s e1.s' e1 → e1.o = o → Ze9 P ext nt fu ops (done ++ [e1]) l (Zgx T e1.o.dst e1.v) e1.s' = some (es, T', s') →
    ∃ (es2 : List Ent) (σ : Nat → St) (τ : Nat → Tr Value), es = done ++ es2 ∧ es2.map (·.o) = o :: l ∧ σ 0 = s ∧ τ 0 = T ∧ σ (o :: l).length = s' ∧ τ (o :: l).length = T' ∧
     ∀ (i : Nat) (e : Ent), es2[i]? = some e → EntOk P ext nt (fu + 1) ops (done ++ es2.take i) (τ i) (τ (i + 1)) (σ i) (σ (i + 1)) e := fun e1 hok ho hrec => by
   obtain ⟨es2, σ, τ, h1, h2, h3, h4, h5, h6, h7⟩ := Ztc nt ops fu l _ _ _ es T' s' hrec
   refine ⟨e1 :: es2, fun i => match i with | 0 => s | i + 1 => σ i, fun i => match i with | 0 => T | i + 1 => τ i, by rw [h1]; simp, by simp [h2, ho], rfl, rfl, by simpa using h5, by simpa using h6, fun i e hi => ?_⟩
   cases i with
   | zero =>
    simp at hi
    subst hi
    simp only [List.take_zero, List.append_nil, h3, h4]
    exact hok
   | succ i =>
    have := (h7 i e (by simpa using hi)).fuel (Nat.le_succ fu)
    simpa using this
  split at h
  ·rename_i s1 hw
   split at h
   ·rename_i v s2 r hv
    obtain ⟨hp, h⟩ := Zp h
    exact go ⟨o, Zds done o.after.toList, r, T, s1, v, s2⟩ ⟨rfl, rfl, rfl, hg.1.1, hg.1.2, hg.2, rfl, hp, true, hw, fun _ => ⟨fu, Nat.lt_succ_self _, _, hv⟩, (fun e => by cases e)⟩ rfl h
   ·cases h
  ·rename_i s1 hw
   obtain ⟨hp, h⟩ := Zp h
   exact go ⟨o, Zds done o.after.toList, Zj8 s1, T, s1, undef, s1⟩ ⟨rfl, rfl, rfl, hg.1.1, hg.1.2, hg.2, rfl, hp, false, hw, (fun e => by cases e), fun _ => ⟨rfl, rfl, rfl⟩⟩ rfl h
  ·cases h

/-! ### Which operations stand ahead -/
theorem Zpl {i : Nat} : ∀ {l : List Edge}, ZmB i l = true → ∀ e ∈ l, Region.binds .any e = true → e.on < i
 | [], _, e, he => by cases he
 | d :: l, h, e, he => by
  simp only [ZmB, Bool.and_eq_true, Bool.or_eq_true, Bool.not_eq_true'] at h
  rcases List.mem_cons.1 he with rfl | he
  ·intro hb
   rcases h.1 with h1 | h1
   ·rw [hb] at h1; cases h1
   ·exact Nat.le_of_ble_eq_true h1
  ·exact Zpl h.2 e he
theorem Zmb {before : List Ent} {j : Nat} : ∀ {l : List Edge}, (Zds before l).testBit j = true → ∃ e ∈ l, Region.binds .any e = true ∧ (e.on = j ∨ ∃ d, before[e.on]? = some d ∧ d.m.testBit j = true)
 | [], h => by simp [Zds] at h
 | d :: l, h => by
  simp only [Zds] at h
  cases hb : Region.binds .any d with
  | false =>
   rw [hb] at h
   obtain ⟨e, h1, h2⟩ := Zmb (l := l) (by simpa using h)
   exact ⟨e, List.mem_cons_of_mem _ h1, h2⟩
  | true =>
   rw [hb] at h
   simp only [cond_true, Nat.testBit_or, Bool.or_eq_true] at h
   rcases h with (h | h) | h
   ·rw [Nat.testBit_two_pow] at h
    exact ⟨d, by simp, hb, .inl (by simpa using h)⟩
   ·refine ⟨d, by simp, hb, .inr ?_⟩
    split at h
    ·exact ⟨_, by assumption, h⟩
    ·simp at h
   ·obtain ⟨e, h1, h2⟩ := Zmb (l := l) h
    exact ⟨e, List.mem_cons_of_mem _ h1, h2⟩
theorem Zpm {ops : Array Oper} {o : Oper} {r : Rec} {m : Nat} : ∀ {l : List Ent} {j : Nat}, Zku ops o r m j l = true → ∀ (i : Nat) (d : Ent), l[i]? = some d → m.testBit (j + i) = true ∨ (Oper.apart ops d.o o = true ∧ ZsP d.r r = true)
 | [], j, _, i, d, hd => by simp at hd
 | x :: l, j, h, i, d, hd => by
  simp only [Zku, Bool.and_eq_true, Bool.or_eq_true] at h
  cases i with
  | zero =>
   simp at hd
   subst hd
   rcases h.1 with h1 | h1
   ·exact .inl (by simpa using h1)
   ·exact .inr h1
  | succ i =>
   have := Zpm h.2 i d (by simpa using hd)
   rwa [show j + 1 + i = j + (i + 1) by omega] at this
def Zum (es : List Ent) (L : Nat → Bool) : Prop := ∀ (i : Nat) (e : Ent), es[i]? = some e → L i = true → ∀ d ∈ e.o.after.toList, Region.binds .any d = true → L d.on = true
theorem Zrq {es : List Ent} {L : Nat → Bool} (hc : Zum es L) (hm : ∀ (i : Nat) (e : Ent), es[i]? = some e → e.m = Zds (es.take i) e.o.after.toList) {j : Nat} :
  ∀ (i : Nat) (e : Ent), es[i]? = some e → (∀ d ∈ e.o.after.toList, Region.binds .any d = true → L d.on = true) → e.m.testBit j = true → L j = true := by
 intro i
 induction i using Nat.strongRecOn with
 | _ i ih =>
  intro e he hr hb
  rw [hm i e he] at hb
  obtain ⟨d, hd, hbd, h1 | ⟨x, hx, hxb⟩⟩ := Zmb hb
  ·rw [← h1]; exact hr d hd hbd
  ·have hlt : d.on < i := by
    have := (List.getElem?_eq_some_iff.1 hx).1
    rw [List.length_take] at this
    omega
   rw [List.getElem?_take_of_lt hlt] at hx
   exact ih d.on hlt x hx (hc d.on x hx (hr d hd hbd)) hxb
end
noncomputable section
section
variable {β : Type}
def ovf (L D : Nat → Bool) (V : Nat → β) (x0 : β) : Nat → β
  | 0 => x0
  | p + 1 => if L p && D p then V p else ovf L D V x0 p
def ZdF (L : Nat → Bool) (i : Nat) : Nat → Bool := fun j => if j = i then true else L j
theorem Zl5 {L D : Nat → Bool} {V S : Nat → β} (i n : Nat) (hi : i ≤ n) (hS : ∀ p, p < n → S (p + 1) = if D p then V p else S p) (h1 : ∀ p, p < i → L p = false → D p = false) (h2 : ∀ p, i ≤ p → p < n → L p = true → D p = false) :
    ovf L D V (S 0) n = S i := by
  have A : ∀ p, p ≤ i → ovf L D V (S 0) p = S p := by
    intro p
    induction p with
    | zero => intro _; rfl
    | succ p ih =>
      intro hp
      rw [ovf, ih (by omega), hS p (by omega)]
      cases hL : L p with
      | true => simp
      | false => rw [h1 p (by omega) hL]; simp
  have B : ∀ p, i ≤ p → p ≤ n → ovf L D V (S 0) p = S i := by
    intro p
    induction p with
    | zero => intro h _; obtain rfl : i = 0 := by omega
              rfl
    | succ p ih =>
      intro h hp
      by_cases he : i = p + 1
      · rw [he]; exact A (p + 1) (by omega)
      · rw [ovf, ih (by omega) (by omega)]
        cases hL : L p with
        | true => rw [h2 p (by omega) (by omega) hL]; simp
        | false => simp
  exact B n hi (Nat.le_refl _)
theorem ZzJ {L D : Nat → Bool} {V : Nat → β} {x0 : β} (i n : Nat) (hi : i < n) (hL : L i = false) (h : ∀ p, i < p → p < n → L p = true → D p = true → D i = false) :
    ovf (ZdF L i) D V x0 n = if D i then V i else ovf L D V x0 n := by
  have A : ∀ p, p ≤ i → ovf (ZdF L i) D V x0 p = ovf L D V x0 p := by
    intro p
    induction p with
    | zero => intro _; rfl
    | succ p ih =>
      intro hp
      rw [ovf, ovf, ih (by omega)]
      have : ZdF L i p = L p := by unfold ZdF; rw [if_neg (by omega)]
      rw [this]
  have B : ∀ p, i < p → p ≤ n → ovf (ZdF L i) D V x0 p = if D i then V i else ovf L D V x0 p := by
    intro p
    induction p with
    | zero => intro h _; omega
    | succ p ih =>
      intro hp hn
      by_cases he : p = i
      · subst he
        rw [ovf, ovf, A p (Nat.le_refl _), hL]
        have : ZdF L p p = true := by simp [ZdF]
        rw [this]
        simp
      · rw [ovf, ovf, ih (by omega) (by omega)]
        have : ZdF L i p = L p := by unfold ZdF; rw [if_neg he]
        rw [this]
        cases hLp : L p with
        | false => simp
        | true =>
          cases hD : D p with
          | false => simp
          | true => rw [h p (by omega) (by omega) hLp hD]; simp
  exact B n hi (Nat.le_refl _)
end
section
variable {P : Program} {ext : FuncId → Option Ext}

section
variable (es : List Ent)
def Zmc (k p : Nat) : Bool := match es[p]? with | some e => Dk e.r k | none => false
def Zxr (k p : Nat) : Option AObj := match es[p]? with | some e => e.s'.h.get k | none => none
def HL (L : Nat → Bool) (s : St) : AH := fun k => ovf L (Zmc es k) (Zxr es k) (s.h.get k) es.length
def Zpn (t p : Nat) : Bool := match es[p]? with | some e => e.o.dst == some t | none => false
def Zxs (p : Nat) : Option Value := match es[p]? with | some e => some e.v | none => none
def TL (L : Nat → Bool) (T : Tr Value) : Nat → Option Value := fun t => ovf L (Zpn es t) (Zxs es) (T.get t) es.length
end
structure Ctx (P : Program) (ext : FuncId → Option Ext) (nt fu : Nat) (ops : Array Oper) (es : List Ent) (σ : Nat → St) (τ : Nat → Tr Value) : Prop where
  len : es.length = ops.size
  op : ∀ (i : Nat) (e : Ent), es[i]? = some e → ops[i]? = some e.o
  ok : ∀ (i : Nat) (e : Ent), es[i]? = some e → EntOk P ext nt fu ops (es.take i) (τ i) (τ (i + 1)) (σ i) (σ (i + 1)) e
  rok : ∀ (i : Nat) (e : Ent), es[i]? = some e → Ztb e.r ∧ e.r.n0 = (σ i).n ∧ e.r.n1 = (σ (i + 1)).n ∧ (∀ k, Dk e.r k = false → (σ (i + 1)).h.get k = (σ i).h.get k) ∧ e.s.h = (σ i).h
  old : ∀ k, ((σ 0).h.get k).isSome → ¬ ((σ 0).n ≤ k ∧ k < (σ es.length).n)
  sem : ∀ (i : Nat) (e : Ent), es[i]? = some e → ∀ (ι : Ren) (w : World) (a : Act) (K : Act → World → Prop) (Q : Exit → Act → World → Prop), (∀ t ∈ e.o.looksAt ops, VR ι (((τ i).get t).getD undef) (a.tmps.getD t undef)) → Emb P ι (Kof e) w → Fresh ι (σ i).n (σ (i + 1)).n →
    (∀ v' w' ι', Step P ι (Kof e) w ι' (Zxp e) w' → Dom ι ι' (σ i).n (σ (i + 1)).n → VR ι' e.v v' → K (a.put e.o.dst v') w') → wpOp P ops Q i K a w
variable {nt fu : Nat} {ops : Array Oper} {es : List Ent} {σ : Nat → St} {τ : Nat → Tr Value}
theorem Ctx.get (C : Ctx P ext nt fu ops es σ τ) {i : Nat} (hi : i < es.length) : ∃ e, es[i]? = some e := ⟨_, List.getElem?_eq_getElem hi⟩
theorem Ctx.mono (C : Ctx P ext nt fu ops es σ τ) : ∀ {i j : Nat}, i ≤ j → j ≤ es.length → (σ i).n ≤ (σ j).n := by
  intro i j
  induction j with
  | zero => intro h _; obtain rfl : i = 0 := by omega
            exact Nat.le_refl _
  | succ j ih =>
    intro h hj
    by_cases he : i = j + 1
    · subst he; exact Nat.le_refl _
    · obtain ⟨e, hee⟩ := C.get (i := j) (by omega)
      obtain ⟨r1, r2, r3, _⟩ := C.rok j e hee
      have := r1.le
      exact Nat.le_trans (ih (by omega) (by omega)) (by omega)
theorem Ctx.chainH (C : Ctx P ext nt fu ops es σ τ) (k p : Nat) (hp : p < es.length) : (σ (p + 1)).h.get k = if Zmc es k p then Zxr es k p else (σ p).h.get k := by
  obtain ⟨e, he⟩ := C.get hp
  obtain ⟨_, _, _, r4, _⟩ := C.rok p e he
  have hs := (C.ok p e he).es'
  unfold Zmc Zxr
  rw [he]
  simp only
  cases hd : Dk e.r k with
  | true => simp [hs]
  | false => simpa using r4 k hd
theorem Ctx.chainT (C : Ctx P ext nt fu ops es σ τ) (t p : Nat) (hp : p < es.length) : (τ (p + 1)).get t = if Zpn es t p then Zxs es p else (τ p).get t := by
  obtain ⟨e, he⟩ := C.get hp
  have hs := (C.ok p e he).eT'
  unfold Zpn Zxs
  rw [he, hs]
  simp only
  cases hd : e.o.dst with
  | none => simp [Zgx]
  | some d =>
    simp only [Zgx, Tr.get_set]
    by_cases ht : t = d
    · subst ht; simp [Zo]
    · rw [Zh ht]
      have : ((some d : Option Nat) == some t) = false := by simpa using fun e => ht e.symm
      rw [this]
      simp
theorem Ctx.dk_lt (C : Ctx P ext nt fu ops es σ τ) {p k : Nat} {e : Ent} (he : es[p]? = some e) (hd : Dk e.r k = true) : k < (σ (p + 1)).n := by
  obtain ⟨r1, r2, r3, _⟩ := C.rok p e he
  rcases Zfk.1 hd with ⟨_, h⟩ | ⟨_, h⟩
  · have := r1.lt k h; have := r1.le; omega
  · omega
theorem Ctx.pair (C : Ctx P ext nt fu ops es σ τ) {i j : Nat} {d e : Ent} (hij : i < j) (hd : es[i]? = some d) (he : es[j]? = some e) : e.m.testBit i = true ∨ (Oper.apart ops d.o e.o = true ∧ Zxq d.r e.r ∧ Zxq e.r d.r ∧ ∀ k, Dk d.r k = true → Dk e.r k = true → False) := by
  have hj : j < es.length := (List.getElem?_eq_some_iff.1 he).1
  rcases Zpm (C.ok j e he).pairs i d (by rw [List.getElem?_take_of_lt hij]; exact hd) with h | ⟨h1, h2⟩
  · exact .inl (by simpa using h)
  · obtain ⟨r1, r2, r3, _⟩ := C.rok i d hd
    obtain ⟨q1, q2, q3, _⟩ := C.rok j e he
    exact .inr ⟨h1, ZyT h2 r1 q1 (by rw [r3, q2]; exact C.mono (by omega) (by omega))⟩
structure Zq5 (es : List Ent) (L : Nat → Bool) (i : Nat) (e : Ent) : Prop where
  at_ : es[i]? = some e
  cl : Zum es L
  not : L i = false
  deps : ∀ d ∈ e.o.after.toList, Region.binds .any d = true → L d.on = true
theorem Ctx.masks (C : Ctx P ext nt fu ops es σ τ) : ∀ (i : Nat) (e : Ent), es[i]? = some e → e.m = Zds (es.take i) e.o.after.toList := fun i e he => (C.ok i e he).em
theorem Ctx.loose (C : Ctx P ext nt fu ops es σ τ) {L : Nat → Bool} {i j : Nat} {e d : Ent} (R : Zq5 es L i e) (hd : es[j]? = some d) (hne : j < i ∧ L j = false ∨ i < j ∧ L j = true) :
    (∀ t, d.o.dst = some t → t ∉ e.o.looksAt ops) ∧ (∀ t, d.o.dst = some t → e.o.dst ≠ some t) ∧ Zxq e.r d.r ∧ ∀ k, Dk d.r k = true → Dk e.r k = true → False := by
  rcases hne with ⟨h1, h2⟩ | ⟨h1, h2⟩
  · rcases C.pair h1 hd R.at_ with h | ⟨g1, g2, g3, g4⟩
    · have := Zrq R.cl C.masks i e R.at_ R.deps h
      rw [h2] at this; cases this
    · obtain ⟨a1, a2, a3⟩ := Oper.apart_spec g1
      exact ⟨a1, a2, g3, g4⟩
  · rcases C.pair h1 R.at_ hd with h | ⟨g1, g2, g3, g4⟩
    · have := Zrq R.cl C.masks j d hd (R.cl j d hd h2) h
      rw [R.not] at this; cases this
    · obtain ⟨a1, a2, a3⟩ := Oper.apart_spec g1
      exact ⟨a3, fun t ht he => a2 t he ht, g2, fun k k1 k2 => g4 k k2 k1⟩
theorem Ctx.live (C : Ctx P ext nt fu ops es σ τ) : ∀ (i : Nat), i ≤ es.length → ∀ k, ((σ i).h.get k).isSome → ¬ ((σ i).n ≤ k ∧ k < (σ es.length).n) := by
  intro i
  induction i with
  | zero => intro _ k hk; exact C.old k hk
  | succ i ih =>
    intro hi k hk
    obtain ⟨e, he⟩ := C.get (i := i) (by omega)
    rw [C.chainH k i (by omega)] at hk
    have hd : Zmc es k i = Dk e.r k := by unfold Zmc; rw [he]
    rw [hd] at hk
    cases hdk : Dk e.r k with
    | true => have := C.dk_lt he hdk; omega
    | false =>
      rw [hdk] at hk
      have := ih (by omega) k (by simpa using hk)
      have := C.mono (i := i) (j := i + 1) (by omega) hi
      omega
theorem Ctx.agreeH (C : Ctx P ext nt fu ops es σ τ) {L : Nat → Bool} {i : Nat} {e : Ent} (R : Zq5 es L i e) (k : Nat) (h1 : e.r.small = true → k ∈ e.r.t ++ e.r.q) (h2 : e.r.small = false → ¬ ((σ i).n ≤ k ∧ k < (σ es.length).n)) (h3 : e.r.small = false → k ∉ e.r.q) : HL es L (σ 0) k = (σ i).h.get k := by
  have hi : i < es.length := (List.getElem?_eq_some_iff.1 R.at_).1
  have key : ∀ p, p < es.length → (p < i ∧ L p = false ∨ i < p ∧ L p = true) → Zmc es k p = false := fun p hp hh => by
    obtain ⟨d, hd⟩ := C.get hp
    obtain ⟨_, _, g3, _⟩ := C.loose R hd hh
    unfold Zmc
    rw [hd]
    simp only
    cases hs : e.r.small with
    | true => exact g3.1 hs k (h1 hs)
    | false =>
      by_cases hk : k < e.r.n0
      · exact g3.2 hs k hk (h3 hs)
      · cases hdk : Dk d.r k with
        | false => rfl
        | true =>
          exfalso
          have q := C.dk_lt hd hdk
          have := C.mono (i := p + 1) (j := es.length) (by omega) (Nat.le_refl _)
          have := (C.rok i e R.at_).2.1
          exact h2 hs ⟨by omega, by omega⟩
  exact Zl5 (S := fun p => (σ p).h.get k) i es.length (by omega) (fun p hp => C.chainH k p hp) (fun p hp hL => key p (by omega) (.inl ⟨hp, hL⟩)) (fun p hp hn hL => by
    by_cases he : p = i
    · subst he; rw [R.not] at hL; cases hL
    · exact key p hn (.inr ⟨by omega, hL⟩))
theorem Ctx.agreeT (C : Ctx P ext nt fu ops es σ τ) {L : Nat → Bool} {i : Nat} {e : Ent} (R : Zq5 es L i e) (t : Nat) (ht : t ∈ e.o.looksAt ops) : TL es L (τ 0) t = (τ i).get t := by
  have hi : i < es.length := (List.getElem?_eq_some_iff.1 R.at_).1
  have key : ∀ p, p < es.length → (p < i ∧ L p = false ∨ i < p ∧ L p = true) → Zpn es t p = false := fun p hp hh => by
    obtain ⟨d, hd⟩ := C.get hp
    obtain ⟨g1, _⟩ := C.loose R hd hh
    unfold Zpn
    rw [hd]
    simp only
    cases hb : d.o.dst == some t with
    | false => rfl
    | true => exact absurd ht (g1 t (by simpa using hb))
  exact Zl5 (S := fun p => (τ p).get t) i es.length (by omega) (fun p hp => C.chainT t p hp) (fun p hp hL => key p (by omega) (.inl ⟨hp, hL⟩)) (fun p hp hn hL => by
    by_cases he : p = i
    · subst he; rw [R.not] at hL; cases hL
    · exact key p hn (.inr ⟨by omega, hL⟩))
theorem Ctx.addH (C : Ctx P ext nt fu ops es σ τ) {L : Nat → Bool} {i : Nat} {e : Ent} (R : Zq5 es L i e) (k : Nat) : HL es (ZdF L i) (σ 0) k = if Dk e.r k then e.s'.h.get k else HL es L (σ 0) k := by
  have hi : i < es.length := (List.getElem?_eq_some_iff.1 R.at_).1
  have := ZzJ (D := Zmc es k) (V := Zxr es k) (x0 := (σ 0).h.get k) i es.length hi R.not fun p hp hn hL hD => by
    obtain ⟨d, hd⟩ := C.get hn
    obtain ⟨_, _, _, g4⟩ := C.loose R hd (.inr ⟨hp, hL⟩)
    unfold Zmc at hD ⊢
    rw [hd] at hD
    rw [R.at_]
    simp only at hD ⊢
    cases hdk : Dk e.r k with
    | false => rfl
    | true => exact (g4 k hD hdk).elim
  unfold HL
  rw [this]
  unfold Zmc Zxr
  rw [R.at_]
theorem Ctx.addT (C : Ctx P ext nt fu ops es σ τ) {L : Nat → Bool} {i : Nat} {e : Ent} (R : Zq5 es L i e) (t : Nat) : TL es (ZdF L i) (τ 0) t = if e.o.dst = some t then some e.v else TL es L (τ 0) t := by
  have hi : i < es.length := (List.getElem?_eq_some_iff.1 R.at_).1
  have := ZzJ (D := Zpn es t) (V := Zxs es) (x0 := (τ 0).get t) i es.length hi R.not fun p hp hn hL hD => by
    obtain ⟨d, hd⟩ := C.get hn
    obtain ⟨_, g2, _⟩ := C.loose R hd (.inr ⟨hp, hL⟩)
    unfold Zpn at hD ⊢
    rw [hd] at hD
    rw [R.at_]
    simp only at hD ⊢
    cases hdk : e.o.dst == some t with
    | false => rfl
    | true => exact absurd (by simpa using hdk) (g2 t (by simpa using hD))
  unfold TL
  rw [this]
  unfold Zpn Zxs
  rw [R.at_]
  simp only
  by_cases hb : e.o.dst = some t
  · simp [hb]
  · have : (e.o.dst == some t) = false := by simpa using hb
    rw [this, if_neg hb]
    simp
end
end
section
variable {P : Program} {ext : FuncId → Option Ext}

theorem Zpo {ops : Array Oper} {listed : Array Bool} (hs : listed.size = ops.size) {i : Nat} : i ∈ Region.ready .any ops listed ↔ ∃ o, ops[i]? = some o ∧ listed.getD i false = false ∧ ∀ d ∈ o.after.toList, Region.binds .any d = true → listed.getD d.on false = true := by
 unfold Region.ready
 rw [List.mem_filter]
 simp only [List.mem_range, Bool.and_eq_true, Bool.not_eq_true']
 constructor
 ·rintro ⟨hi, h1, h2⟩
  have ho : ops[i]? = some ops[i] := Array.getElem?_eq_getElem hi
  rw [ho] at h2
  simp only [Option.map_some, Option.getD_some, Array.all_eq_true', Bool.or_eq_true, Bool.not_eq_true'] at h2
  refine ⟨ops[i], ho, ?_, fun d hd hb => ?_⟩
  ·have hl : i < listed.size := by omega
   simpa [Array.getD, hl] using h1
  ·rcases h2 d (by simpa using hd) with h | h
   ·rw [hb] at h; cases h
   ·exact h
 ·rintro ⟨o, ho, h1, h2⟩
  have hi : i < ops.size := (Array.getElem?_eq_some_iff.1 ho).1
  have hl : i < listed.size := by omega
  refine ⟨hi, by simpa [Array.getD, hl] using h1, ?_⟩
  rw [ho]
  simp only [Option.map_some, Option.getD_some, Array.all_eq_true', Bool.or_eq_true, Bool.not_eq_true']
  intro d hd
  cases hb : Region.binds .any d with
  | false => exact .inl rfl
  | true => exact .inr (h2 d (by simpa using hd) hb)
def cnt (L : Nat → Bool) : Nat → Nat
 | 0 => 0
 | p + 1 => cnt L p + if L p then 0 else 1
theorem ZzK {L : Nat → Bool} {i : Nat} (hL : L i = false) : ∀ p, (p ≤ i → cnt (ZdF L i) p = cnt L p) ∧ (i < p → cnt (ZdF L i) p + 1 = cnt L p)
 | 0 => ⟨fun _ => rfl, fun h => by omega⟩
 | p + 1 => by
  obtain ⟨h1, h2⟩ := ZzK hL p
  refine ⟨fun h => ?_, fun h => ?_⟩
  ·have : ZdF L i p = L p := by unfold ZdF; rw [if_neg (by omega)]
   rw [cnt, cnt, h1 (by omega), this]
  ·by_cases he : p = i
   ·subst he
    have : ZdF L p p = true := by simp [ZdF]
    rw [cnt, cnt, h1 (Nat.le_refl _), this, hL]
    simp
   ·have : ZdF L i p = L p := by unfold ZdF; rw [if_neg he]
    rw [cnt, cnt, this]
    have := h2 (by omega)
    omega
theorem Zxt {L : Nat → Bool} : ∀ p, cnt L p = 0 → ∀ j, j < p → L j = true
 | 0, _, j, hj => by omega
 | p + 1, h, j, hj => by
  rw [cnt] at h
  by_cases he : j = p
  ·subst he
   cases hL : L j with
   | true => rfl
   | false => rw [hL] at h; simp at h
  ·exact Zxt p (by omega) j (by omega)
theorem Z2g {a : Act} {dst : Option Tmp} {nt : Nat} (hs : a.tmps.size = nt) (hd : Zjh nt dst = true) (v : Value) (t : Nat) : (a.put dst v).tmps.getD t undef = if dst = some t then v else a.tmps.getD t undef := by
 cases dst with
 | none => simp [Act.put]
 | some d =>
  have hlt : d < a.tmps.size := by rw [hs]; simpa [Zjh, Nat.blt_eq] using hd
  simp only [Act.put]
  by_cases ht : d = t
  ·subst ht
   simp [Array.getD, hlt]
  ·have : ¬ (some d = some t) := by simpa using ht
   rw [if_neg this]
   simp [Array.getD_eq_getD_getElem?, Array.getElem?_setIfInBounds_ne ht]
variable {nt fu : Nat} {ops : Array Oper} {es : List Ent} {σ : Nat → St} {τ : Nat → Tr Value}
structure Inv (P : Program) (nt : Nat) (D : List Deferred) (es : List Ent) (σ : Nat → St) (τ : Nat → Tr Value) (ι0 : Ren) (w0 : World) (L : Nat → Bool) (a : Act) (w : World) (ι : Ren) : Prop where
 step : Step P ι0 (σ 0).h.get w0 ι (HL es L (σ 0)) w
 dom : ∀ k, ι k ≠ none → ι0 k ≠ none ∨ far ≤ k ∨ ∃ j, L j = true ∧ j < es.length ∧ (σ j).n ≤ k ∧ k < (σ (j + 1)).n
 size : a.tmps.size = nt
 defers : a.defers = D
 temps : ∀ t, VR ι ((TL es L (τ 0) t).getD undef) (a.tmps.getD t undef)
theorem Ctx.order {D : List Deferred} (C : Ctx P ext nt fu ops es σ τ) {ι0 : Ren} {w0 : World} (hf : Fresh ι0 (σ 0).n (σ es.length).n) {Q : Exit → Act → World → Prop}
  (hQ : ∀ ι a w, Step P ι0 (σ 0).h.get w0 ι (σ es.length).h.get w → Dom ι0 ι (σ 0).n (σ es.length).n → TR ι nt D (τ es.length) a → Q .normal a w) :
  ∀ (fuel : Nat) (listed : Array Bool) (a : Act) (w : World) (ι : Ren), listed.size = ops.size → cnt (fun j => listed.getD j false) es.length ≤ fuel → Zum es (fun j => listed.getD j false) → Inv P nt D es σ τ ι0 w0 (fun j => listed.getD j false) a w ι →
   wpAny P .any ops Q fuel listed a w := by
 -- all are listed
 have fin : ∀ (listed : Array Bool) (a : Act) (w : World) (ι : Ren), (∀ j, j < es.length → listed.getD j false = true) → Inv P nt D es σ τ ι0 w0 (fun j => listed.getD j false) a w ι → Q .normal a w := fun listed a w ι hall I => by
  have hH : HL es (fun j => listed.getD j false) (σ 0) = (σ es.length).h.get := funext fun k =>
   Zl5 (S := fun p => (σ p).h.get k) es.length es.length (Nat.le_refl _) (fun p hp => C.chainH k p hp) (fun p hp hL => by rw [hall p hp] at hL; cases hL) (fun p h1 h2 => by omega)
  have hT : ∀ t, TL es (fun j => listed.getD j false) (τ 0) t = (τ es.length).get t := fun t =>
   Zl5 (S := fun p => (τ p).get t) es.length es.length (Nat.le_refl _) (fun p hp => C.chainT t p hp) (fun p hp hL => by rw [hall p hp] at hL; cases hL) (fun p h1 h2 => by omega)
  refine hQ ι a w (hH ▸ I.step) (fun k hk => ?_) ⟨I.size, I.defers, fun t => hT t ▸ I.temps t⟩
  rcases I.dom k hk with h | h | ⟨j, _, hj, h1, h2⟩
  ·exact .inl h
  ·exact .inr (.inr h)
  ·have := C.mono (i := 0) (j := j) (by omega) (by omega)
   have := C.mono (i := j + 1) (j := es.length) (by omega) (Nat.le_refl _)
   exact .inr (.inl ⟨by omega, by omega⟩)
 have none_ready : ∀ (listed : Array Bool), listed.size = ops.size → Region.ready .any ops listed = [] → ∀ j, j < es.length → listed.getD j false = true := fun listed hs hr => by
  intro j
  induction j using Nat.strongRecOn with
  | _ j ih =>
   intro hj
   obtain ⟨e, he⟩ := C.get hj
   cases hL : listed.getD j false with
   | true => rfl
   | false =>
    exfalso
    have hm : j ∈ Region.ready .any ops listed := (Zpo hs).2 ⟨e.o, C.op j e he, hL, fun d hd hb => by
     have := Zpl (C.ok j e he).edges d hd hb
     rw [List.length_take] at this
     exact ih d.on (by omega) (by omega)⟩
    rw [hr] at hm
    cases hm
 intro fuel
 induction fuel with
 | zero =>
  intro listed a w ι hs hc _ I
  have hall := Zxt es.length (by omega : cnt (fun j => listed.getD j false) es.length = 0)
  refine ⟨?_, fin listed a w ι hall I⟩
  cases hr : Region.ready .any ops listed with
  | nil => rfl
  | cons i l =>
   obtain ⟨o, ho, h1, _⟩ := (Zpo hs).1 (show i ∈ Region.ready .any ops listed by rw [hr]; simp)
   have hi : i < es.length := by rw [C.len]; exact (Array.getElem?_eq_some_iff.1 ho).1
   have := hall i hi
   rw [h1] at this
   cases this
 | succ fuel ih =>
  intro listed a w ι hs hc hcl I
  refine ⟨fun hr => fin listed a w ι (none_ready listed hs hr) I, fun i hi => ?_⟩
  obtain ⟨o, ho, h1, h2⟩ := (Zpo hs).1 hi
  have hin : i < es.length := by rw [C.len]; exact (Array.getElem?_eq_some_iff.1 ho).1
  obtain ⟨e, he⟩ := C.get hin
  have heo : e.o = o := by have := C.op i e he; rw [ho] at this; exact (Option.some.inj this).symm
  subst heo
  have R : Zq5 es (fun j => listed.getD j false) i e := ⟨he, hcl, h1, h2⟩
  obtain ⟨rk, rn0, rn1, _, rsh⟩ := C.rok i e he
  have hK : ∀ k o', Kof e k = some o' → HL es (fun j => listed.getD j false) (σ 0) k = some o' := fun k o' hk => by
   unfold Kof at hk
   split at hk
   ·rename_i hsm
    rw [Zl3] at hk
    split at hk
    ·rename_i hm
     rw [C.agreeH R k (fun _ => hm) (fun e => by rw [hsm] at e; cases e) (fun e => by rw [hsm] at e; cases e)]
     rw [← rsh]; exact hk
    ·cases hk
   ·rename_i hsm
    rw [rsh, ZdU] at hk
    split at hk
    ·rw [Tr.get_nil] at hk; cases hk
    ·rename_i hm
     rw [C.agreeH R k (fun e => absurd e hsm) (fun _ => C.live i (by omega) k (by rw [hk]; rfl)) (fun _ => hm)]
     exact hk
  have hfr : Fresh ι (σ i).n (σ (i + 1)).n := ⟨Nat.le_trans (C.mono (i := i + 1) (j := es.length) (by omega) (Nat.le_refl _)) hf.1, fun k k1 k2 => by
   cases hk : ι k with
   | none => rfl
   | some c =>
    exfalso
    have m1 := C.mono (i := 0) (j := i) (by omega) (by omega)
    have m2 := C.mono (i := i + 1) (j := es.length) (by omega) (Nat.le_refl _)
    rcases I.dom k (by rw [hk]; simp) with h | h | ⟨j, hj, hjn, q1, q2⟩
    ·exact h (hf.2 k (by omega) (by omega))
    ·have := hf.1; omega
    ·by_cases hji : j = i
     ·subst hji
      have hj' : listed.getD j false = true := hj
      rw [h1] at hj'; cases hj'
     ·rcases Nat.lt_or_ge j i with h | h
      ·have := C.mono (i := j + 1) (j := i) (by omega) (by omega); omega
      ·have := C.mono (i := i + 1) (j := j) (by omega) (by omega); omega⟩
  have hil : i < listed.size := by rw [hs, ← C.len]; exact hin
  have hL' : (fun j => (listed.setIfInBounds i true).getD j false) = ZdF (fun j => listed.getD j false) i := funext fun j => by
   unfold ZdF
   by_cases hj : j = i
   ·subst hj; simp [Array.getD, hil]
   ·rw [if_neg hj]
    simp [Array.getD_eq_getD_getElem?, Array.getElem?_setIfInBounds_ne (fun e => hj e.symm)]
  refine C.sem i e he ι w a _ Q (fun t ht => ?_) (I.step.emb.sub hK) hfr fun v' w' ι' st dm hv => ?_
  ·rw [← C.agreeT R t ht]
   exact I.temps t
  ·-- the others stay
   have hX1 : join (Kof e) (fun k => if (Kof e k).isSome then none else HL es (fun j => listed.getD j false) (σ 0) k) = HL es (fun j => listed.getD j false) (σ 0) := funext fun k => by
    cases hk : Kof e k with
    | some o' => rw [ZdV (by rw [hk]; rfl), hk, hK k o' hk]
    | none => rw [Zcz hk, hk]; rfl
   have hX2 : join (Zxp e) (fun k => if (Kof e k).isSome then none else HL es (fun j => listed.getD j false) (σ 0) k) = HL es (ZdF (fun j => listed.getD j false) i) (σ 0) := funext fun k => by
    rw [C.addH R k]
    unfold join Zxp
    cases hd : Dk e.r k with
    | false =>
     simp only [Bool.false_eq_true, if_false]
     cases hk : Kof e k with
     | some o' => exact (hK k o' hk).symm
     | none => rfl
    | true =>
     simp only [if_true]
     cases hs' : e.s'.h.get k with
     | some o' => rfl
     | none =>
      simp only
      split
      ·rfl
      ·rename_i hn
       have hkn : Kof e k = none := by
        cases hk : Kof e k with
        | none => rfl
        | some o' => rw [hk] at hn; exact absurd rfl hn
       rcases Zfk.1 hd with ⟨q1, q2⟩ | ⟨q1, q2⟩
       ·have hlt := rk.lt k q2
        rw [C.agreeH R k (fun _ => List.mem_append_left _ q2) (fun _ => by omega) (fun hs => rk.qt hs k q2)]
        unfold Kof at hkn
        split at hkn
        ·rw [Zl3, if_pos (List.mem_append_left _ q2), rsh] at hkn; exact hkn
        ·rename_i hsm
         rw [rsh, ZdU, if_neg (rk.qt (by simpa using hsm) k q2)] at hkn; exact hkn
       ·cases hx : HL es (fun j => listed.getD j false) (σ 0) k with
        | none => rfl
        | some o' =>
         obtain ⟨b, hb⟩ := I.step.emb.live (k := k) (by rw [hx]; rfl)
         have := hfr.2 k (by omega) (by omega)
         rw [this] at hb
         cases hb
   have fr := Step.framed st (x := fun k => if (Kof e k).isSome then none else HL es (fun j => listed.getD j false) (σ 0) k) (by rw [hX1]; exact I.step.emb) (fun k hk => by
    cases hkk : Kof e k with
    | none => rfl
    | some o' => simp only [hkk] at hk; simp at hk)
   rw [hX1, hX2] at fr
   have hdst := (C.ok i e he).dst
   refine ih (listed.setIfInBounds i true) _ w' ι' (by simpa using hs) ?_ ?_ ?_
   ·rw [hL']
    have := (ZzK (L := fun j => listed.getD j false) (i := i) h1 es.length).2 hin
    omega
   ·rw [hL']
    intro j d hd hj x hx hb
    unfold ZdF at hj ⊢
    split
    ·rfl
    ·by_cases hji : j = i
     ·subst hji
      rw [he] at hd; injection hd with hd; subst hd
      exact h2 x hx hb
     ·rw [if_neg hji] at hj
      exact hcl j d hd hj x hx hb
   ·rw [hL']
    refine ⟨I.step.trans fr, fun k hk => ?_, ?_, ?_, fun t => ?_⟩
    ·rcases dm k hk with h | ⟨q1, q2⟩ | h
     ·rcases I.dom k h with h | h | ⟨j, hj, hjn, q1, q2⟩
      ·exact .inl h
      ·exact .inr (.inl h)
      ·exact .inr (.inr ⟨j, by unfold ZdF; split <;> first | rfl | exact hj, hjn, q1, q2⟩)
     ·exact .inr (.inr ⟨i, by simp [ZdF], hin, q1, q2⟩)
     ·exact .inr (.inl h)
    ·have := I.size
     cases e.o.dst <;> simp [Act.put, this]
    ·have := I.defers
     cases e.o.dst <;> simp [Act.put, this]
    ·rw [C.addT R t, Z2g I.size hdst]
     by_cases hdt : e.o.dst = some t
     ·rw [if_pos hdt, if_pos hdt]; exact hv
     ·rw [if_neg hdt, if_neg hdt]; exact (I.temps t).ext fr.ext
end
section
variable {P : Program} {ext : FuncId → Option Ext}

noncomputable def SOp (P : Program) (ext : FuncId → Option Ext) (fu : Nat) : Prop :=
  ∀ (ρ ρ' : Operand → Value) (o : Oper) (s : St) (v : Value) (s' : St), Zii P ext fu ρ o s = some (v, s') → (∀ p ∈ s'.ob, p.1 = p.2) → ∀ (ι : Ren) (w : World), (∀ x, VR ι (ρ x) (ρ' x)) → Emb P ι s.h.get w → Fresh ι s.n s'.n →
    ∀ (a : Act) (K : Act → World → Prop) (Q : Exit → Act → World → Prop), execOp a.eval o = execOp ρ' o → (∀ v' w' ι', Step P ι s.h.get w ι' s'.h.get w' → Dom ι ι' s.n s'.n → VR ι' v v' → K (a.put o.dst v') w') → o.wp P a w K Q
noncomputable def K0 (r : Rec) (s : St) : AH := if r.small then (Zl0 s.h (r.t ++ r.q)).get else (Zf8 .nil r.q s.h).get
theorem ZgZ {n k : Nat} : ∀ {l : List Nat}, k ∈ ZkE n l ↔ k ∈ l ∧ k < n
  | [] => by simp [ZkE]
  | x :: l => by
    simp only [ZkE]
    cases hx : Nat.blt x n with
    | true =>
      have : x < n := Nat.le_of_ble_eq_true hx
      simp only [cond_true, List.mem_cons, ZgZ (l := l)]
      constructor
      · rintro (rfl | ⟨h1, h2⟩)
        · exact ⟨.inl rfl, this⟩
        · exact ⟨.inr h1, h2⟩
      · rintro ⟨rfl | h1, h2⟩
        · exact .inl rfl
        · exact .inr ⟨h1, h2⟩
    | false =>
      have : ¬ x < n := fun e => by rw [show Nat.blt x n = true from Nat.ble_eq_true_of_le e] at hx; cases hx
      simp only [cond_false, List.mem_cons, ZgZ (l := l)]
      constructor
      · rintro ⟨h1, h2⟩; exact ⟨.inr h1, h2⟩
      · rintro ⟨rfl | h1, h2⟩
        · exact absurd h2 this
        · exact ⟨h1, h2⟩
theorem Zvv (F : Fit P ext) {fu : Nat} {xs : List Nat} {ρ : Operand → Value} {o : Oper} {s s' : St} {v : Value} {r : Rec} (h : Zkj P ext (fu + 1) xs ρ o s = some (v, s', r)) :
    Ztb r ∧ r.n0 = s.n ∧ r.n1 = s'.n ∧ (∀ k, Dk r k = false → s'.h.get k = s.h.get k) ∧
    ∃ (s0 s1 : St), Zii P ext fu ρ o s0 = some (v, s1) ∧ s0.n = s.n ∧ s1.n = s'.n ∧ s1.ob = s'.ob ∧ s0.h.get = K0 r s ∧ s1.h.get = fun k => if Dk r k then s'.h.get k else K0 r s k := by
  have ndk : ∀ {k : Nat}, Dk r k = false → ¬ ((r.w = true ∧ k ∈ r.t) ∨ (r.n0 ≤ k ∧ k < r.n1)) := fun {k} hd hn => by rw [Zfk.2 hn] at hd; cases hd
  simp only [Zkj] at h
  split at h
  · split at h
    · rename_i v1 s1 h1
      obtain ⟨hall, h⟩ := Zp h
      simp only [Bool.and_eq_true] at hall
      obtain ⟨hall, hxl, hxw⟩ := hall
      injection h with h
      simp only [Prod.mk.injEq] at h
      obtain ⟨rfl, rfl, rfl⟩ := h
      have u := (ZfL (P := P) (ext := ext) (fun f g hg => (F.hp f g hg).up) fu).2.2.1 _ _ _ _ _ h1
      obtain ⟨l, e1, e2⟩ := u.log
      simp only [List.append_nil] at e1
      subst e1
      have hx : ∀ k ∈ xs, k < s.n := fun k hk => Nat.le_of_ble_eq_true (ZaG hxl k hk)
      have same : ∀ k, Dk ⟨false, true, ZkE s.n s1.wr, s.n, s1.n, xs⟩ k = false → s1.h.get k = (Zf8 .nil xs s.h).get k := fun k hd => by
        have hn := ndk hd
        refine e2 k (fun hk => hn ?_) (fun hk => hn (.inr hk))
        have hk1 : k < s1.n := Nat.le_of_ble_eq_true (ZaG hall k hk)
        by_cases hks : k < s.n
        · exact .inl ⟨rfl, ZgZ.2 ⟨hk, hks⟩⟩
        · exact .inr ⟨Nat.not_lt.1 hks, hk1⟩
      refine ⟨⟨fun k hk => (ZgZ.1 hk).2, hx, u.n, fun _ => rfl, fun _ k hk hm => Zdx hxw hm (ZgZ.1 hk).1⟩, rfl, rfl, fun k hd => ?_, _, s1, h1, rfl, rfl, rfl, rfl, funext fun k => ?_⟩
      · show (Zf8 _ _ _).get k = _
        rw [ZdU]
        split
        · rfl
        · rename_i hm
          rw [same k hd, ZdU, if_neg hm]
      · split
        · rename_i hd
          show _ = (Zf8 _ _ _).get k
          rw [ZdU, if_neg]
          intro hm
          rcases Zfk.1 hd with ⟨_, q2⟩ | ⟨q1, _⟩
          · exact Zdx hxw hm (ZgZ.1 q2).1
          · have := hx k hm; simp only at q1; omega
        · rename_i hd
          exact same k (by simpa using hd)
    · cases h
  · generalize hw : (ZhY s ρ o).1 = w at h
    generalize ht : (ZhY s ρ o).2 = t at h
    generalize hq : Zm9 ρ o = q at h
    obtain ⟨hltq, h⟩ := Zp h
    obtain ⟨hlt, hlq⟩ := (Bool.and_eq_true _ _).mp hltq
    split at h
    · rename_i v1 s1 h1
      obtain ⟨hall, h⟩ := Zp h
      simp only [Bool.and_eq_true] at hall
      injection h with h
      simp only [Prod.mk.injEq] at h
      obtain ⟨rfl, rfl, rfl⟩ := h
      have u := (ZfL (P := P) (ext := ext) (fun f g hg => (F.hp f g hg).up) fu).2.2.1 _ _ _ _ _ h1
      obtain ⟨l, e1, e2⟩ := u.log
      simp only [List.append_nil] at e1
      subst e1
      have hle : s1.n ≤ s.n + 1 := Nat.le_of_ble_eq_true hall.2
      have hge : s.n ≤ s1.n := u.n
      have htl : ∀ k ∈ t, k < s.n := fun k hk => Nat.le_of_ble_eq_true (ZaG hlt k hk)
      have hwr : ∀ k ∈ s1.wr, w = true ∧ k ∈ t := fun k hk => by
        have := ZaG hall.1 k hk
        simp only [Bool.and_eq_true, ZkK] at this
        exact this
      have gets : ∀ k, ((bif w then Zf8 s1.h t s.h else s.h).set s.n (bif Nat.beq s1.n s.n then s.h.get s.n else s1.h.get s.n)).get k =
          if k = s.n then (bif Nat.beq s1.n s.n then s.h.get s.n else s1.h.get s.n) else if w = true ∧ k ∈ t then s1.h.get k else s.h.get k := fun k => by
        rw [Tr.get_set]
        unfold upd
        split
        · rfl
        · cases w with
          | false => simp
          | true =>
            simp only [cond_true, true_and]
            rw [ZdU]
      refine ⟨⟨htl, fun k hk => Nat.le_of_ble_eq_true (ZaG hlq k hk), hge, fun e => (by cases e), fun e => by cases e⟩, rfl, rfl, fun k hd => ?_, _, s1, h1, rfl, rfl, rfl, rfl, funext fun k => ?_⟩
      · have hn := ndk hd
        rw [gets]
        split
        · rename_i hk
          subst hk
          have : s1.n = s.n := by
            rcases Nat.lt_or_ge s.n s1.n with h | h
            · exact absurd (.inr ⟨Nat.le_refl _, h⟩) hn
            · omega
          rw [ZkF this]; rfl
        · split
          · rename_i hk; exact absurd (.inl hk) hn
          · rfl
      · split
        · rename_i hd
          rw [gets]
          rcases Zfk.1 hd with ⟨q1, q2⟩ | ⟨q1, q2⟩
          · have := htl k q2
            rw [if_neg (by omega), if_pos ⟨q1, q2⟩]
          · simp only at q1 q2
            have hk : k = s.n := by omega
            subst hk
            rw [if_pos rfl, Zik (by omega)]; rfl
        · rename_i hd
          have hn := ndk (by simpa using hd)
          show _ = (Zl0 s.h (t ++ q)).get k
          exact e2 k (fun hk => hn (.inl (hwr k hk))) (fun hk => hn (.inr hk))
    · cases h
theorem Znx {t : Tmp} : ∀ {l : List Operand}, t ∈ Zig l ↔ .tmp t ∈ l
  | [] => by simp [Zig]
  | x :: l => by cases x <;> simp [Zig, Znx (l := l)]
theorem Zvw {T : Tr Value} (t : Nat) : ∀ (l : List Tmp), (Zq3 T l).get t = if t ∈ l then T.get t else none
  | [] => by simp [Zq3, Tr.get_nil]
  | j :: l => by
    rw [Zq3, Tr.get_set]
    by_cases hk : t = j
    · subst hk; rw [Zo]; simp
    · rw [Zh hk, Zvw t l]
      simp [hk]
theorem ZrO {fu : Nat} {ρ : Operand → Value} {o : Oper} {s s' : St} {v : Value} (h : Zii P ext fu ρ o s = some (v, s')) : ∀ cs b, o.op ≠ .select cs b := fun cs b hsel => by
  cases fu with
  | zero => simp [Zii] at h
  | succ fu =>
    have h1 : ev1 P ρ o s = none := by unfold ev1; rw [hsel]
    simp only [Zii, Zm8, hsel, h1] at h
    cases h
theorem Z2h (F : Fit P ext) {nt fu : Nat} {D : List Deferred} {ops : Array Oper} {es : List Ent} {T T' : Tr Value} {s s' : St} (hS : ∀ fu', fu' < fu → SOp P ext fu') (h : Ze9 P ext nt fu ops [] ops.toList T s = some (es, T', s')) (ho : ∀ p ∈ s'.ob, p.1 = p.2)
    {ι : Ren} {a : Act} {w : World} {Q : Exit → Act → World → Prop} (hT : TR ι nt D T a) (he : Emb P ι s.h.get w) (hf : Fresh ι s.n s'.n)
    (hQ : ∀ ι' a' w', Step P ι s.h.get w ι' s'.h.get w' → Dom ι ι' s.n s'.n → TR ι' nt D T' a' → Q .normal a' w') : wpAny P .any ops Q ops.size (Array.replicate ops.size false) a { w with drawn := w.drawn + 1 } := by
  obtain ⟨es2, σ, τ, h1, h2, h3, h4, h5, h6, h7⟩ := Ztc nt ops fu _ _ _ _ _ _ _ h
  simp only [List.nil_append] at h1 h7
  subst h1
  have hlen : es.length = ops.size := by rw [← List.length_map (f := (·.o)), h2]; simp
  have hN : ops.toList.length = es.length := by rw [hlen]; simp
  rw [hN] at h5 h6
  have hop : ∀ (i : Nat) (e : Ent), es[i]? = some e → ops[i]? = some e.o := fun i e hi => by
    have : (es.map (·.o))[i]? = some e.o := by simp [hi]
    rw [h2] at this
    simpa using this
  have hup : ∀ (i : Nat) (e : Ent), es[i]? = some e → Up (σ i) e.s ∧ Up e.s e.s' := fun i e hi => by
    obtain ⟨b, q1, q2, q3⟩ := (h7 i e hi).run
    refine ⟨ZcK q1, ?_⟩
    cases b with
    | true =>
      obtain ⟨fu', _, xs, hv⟩ := q2 rfl
      exact (ZfL (P := P) (ext := ext) (fun f g hg => (F.hp f g hg).up) fu').2.2.2.2.2 _ _ _ _ _ _ _ hv
    | false => obtain ⟨_, e1, _⟩ := q3 rfl; rw [e1]; exact Up.refl _
  have upn : ∀ m i, i + m = es.length → Up (σ i) (σ es.length) := by
    intro m
    induction m with
    | zero => intro i hi; obtain rfl : i = es.length := by omega
              exact Up.refl _
    | succ m ih =>
      intro i hi
      have hlt : i < es.length := by omega
      obtain ⟨u1, u2⟩ := hup i es[i] (List.getElem?_eq_getElem hlt)
      have := ih (i + 1) (by omega)
      rw [(h7 i es[i] (List.getElem?_eq_getElem hlt)).es'] at this
      exact (u1.trans u2).trans this
  have hob : ∀ (i : Nat) (e : Ent), es[i]? = some e → ∀ p ∈ e.s'.ob, p.1 = p.2 := fun i e hi => by
    have hlt : i < es.length := (List.getElem?_eq_some_iff.1 hi).1
    have u := upn (es.length - (i + 1)) (i + 1) (by omega)
    rw [(h7 i e hi).es', h5] at u
    exact Zd9 u.ob ho
  -- a test answered so is so
  have hst : ∀ (i : Nat) (e : Ent), es[i]? = some e → e.s.h = (σ i).h ∧ e.s.n = (σ i).n := fun i e hi => by
    obtain ⟨b, q1, _, _⟩ := (h7 i e hi).run
    unfold ZgW at q1
    split at q1
    · injection q1 with q1; injection q1 with g1 g2; rw [← g2]; exact ⟨rfl, rfl⟩
    · split at q1
      · split at q1
        · injection q1 with q1; injection q1 with g1 g2; rw [← g2]; exact ⟨rfl, rfl⟩
        · injection q1 with q1; injection q1 with g1 g2; rw [← g2]; exact ⟨rfl, rfl⟩
        · cases q1
      · cases q1
  have hrec : ∀ (i : Nat) (e : Ent), es[i]? = some e → Ztb e.r ∧ e.r.n0 = (σ i).n ∧ e.r.n1 = (σ (i + 1)).n ∧ (∀ k, Dk e.r k = false → (σ (i + 1)).h.get k = (σ i).h.get k) ∧ e.s.h = (σ i).h := fun i e hi => by
    obtain ⟨g1, g2⟩ := hst i e hi
    obtain ⟨b, q1, q2, q3⟩ := (h7 i e hi).run
    rw [(h7 i e hi).es']
    cases b with
    | true =>
      obtain ⟨fu', _, xs, hv⟩ := q2 rfl
      cases fu' with
      | zero => simp [Zkj] at hv
      | succ fu' =>
        obtain ⟨r1, r2, r3, r4, _⟩ := Zvv F hv
        exact ⟨r1, by rw [r2, g2], r3, fun k hk => by rw [r4 k hk, g1], g1⟩
    | false =>
      obtain ⟨_, e1, e2⟩ := q3 rfl
      rw [e1, e2]
      exact ⟨⟨fun k hk => by simp [Zj8] at hk, fun k hk => by simp [Zj8] at hk, Nat.le_refl _, fun e => (by simp [Zj8] at e), fun e => by simp [Zj8] at e⟩, g2, rfl, fun k _ => by rw [g1], g1⟩
  have C : Ctx P ext nt fu ops es σ τ := by
    refine ⟨hlen, hop, h7, hrec, fun k hk => ?_, fun i e hi ι1 w1 a1 K Q1 ht1 he1 hf1 hK => ?_⟩
    · rw [h3] at hk ⊢
      rw [h5]
      rintro ⟨k1, k2⟩
      obtain ⟨b, hb⟩ := he.live hk
      rw [hf.2 k k1 k2] at hb
      cases hb
    · obtain ⟨g1, g2⟩ := hst i e hi
      obtain ⟨b, q1, q2, q3⟩ := (h7 i e hi).run
      have hes' := (h7 i e hi).es'
      have hlt : i < es.length := (List.getElem?_eq_some_iff.1 hi).1
      obtain ⟨hwant, _, _⟩ := Zgz ht1 q1
      unfold wpOp
      rw [hop i e hi]
      simp only
      cases b with
      | true =>
        rw [if_pos hwant]
        obtain ⟨fu', hfu, xs, hv⟩ := q2 rfl
        cases fu' with
        | zero => simp [Zkj] at hv
        | succ fu' =>
          obtain ⟨r1, r2, r3, r4, s0, s1, hv1, n0, n1, ob1, hh0, hh1⟩ := Zvv F hv
          refine .inl (hS fu' (by omega) _ (fun x => match x with | .tmp t => if t ∈ Zig e.o.op.operands.toList then a1.tmps.getD t undef else undef | x => ZeD a1 x) e.o s0 e.v s1 hv1 (by rw [ob1]; exact hob i e hi) ι1 w1 (fun x => ?_) ?_ ?_ a1 K Q1 ?_ fun v' w' ι' k1 k2 k3 => ?_)
          · cases x with
            | tmp t =>
              simp only [opnd]
              rw [Zvw]
              by_cases htm : t ∈ Zig e.o.op.operands.toList
              · rw [if_pos htm, if_pos htm]
                refine ht1 t ?_
                unfold Oper.looksAt
                refine List.mem_append_left _ (List.mem_filterMap.2 ⟨.tmp t, Znx.1 htm, rfl⟩)
              · rw [if_neg htm, if_neg htm]; exact VR.undef'
            | const v =>
              simp only [opnd, ZeD]
              cases hfv : free v
              · exact VR.undef'
              · exact VR.of_free hfv
            | global g => exact .glob rfl
            | func f => exact .atom rfl
          · rw [hh0]; exact he1
          · rw [n0, n1, g2, ← hes']; exact hf1
          · refine execOp_congr e.o (fun cs b hsel => ?_) fun x hx => ?_
            · exact ZrO hv1 cs b hsel
            · have hg := ZaG (h7 i e hi).good x (by simpa using hx)
              cases x with
              | tmp t => simp only; rw [if_pos (Znx.2 (by simpa using hx))]; rfl
              | const v => simp only [Zjo] at hg; simp [ZeD, hg, Act.eval]
              | global g => rfl
              | func f => rfl
          · rw [hh0, hh1] at k1
            rw [n0, n1, g2, ← hes'] at k2
            exact hK v' w' ι' k1 k2 k3
      | false =>
        obtain ⟨e0, e1, e2⟩ := q3 rfl
        rw [if_neg (by rw [hwant]; simp)]
        refine hK undef w1 ι1 ?_ Dom.refl (by rw [e0]; exact VR.undef')
        have : Zxp e = Kof e := funext fun k => by
          unfold Zxp
          rw [e2]
          have : Dk (Zj8 e.s) k = false := by
            cases hd : Dk (Zj8 e.s) k with
            | false => rfl
            | true =>
              rcases Zfk.1 hd with ⟨q, _⟩ | ⟨q1, q2⟩
              · simp [Zj8] at q
              · simp only [Zj8] at q1 q2; omega
          rw [this]; rfl
        rw [this]
        exact Step.refl he1
  have none0 : ∀ {β : Type} (D : Nat → Bool) (V : Nat → β) (x0 : β) (L : Nat → Bool), (∀ j, L j = false) → ∀ n, ovf L D V x0 n = x0 := fun D V x0 L hL n => by
    induction n with
    | zero => rfl
    | succ n ih => rw [ovf, hL n, ih]; simp
  have hL0 : ∀ j, (Array.replicate ops.size false).getD j false = false := fun j => by
    simp only [Array.getD_eq_getD_getElem?, Array.getElem?_replicate]
    split <;> rfl
  have hH0 : HL es (fun j => (Array.replicate ops.size false).getD j false) (σ 0) = (σ 0).h.get := funext fun k => none0 _ _ _ _ hL0 _
  have hT0 : ∀ t, TL es (fun j => (Array.replicate ops.size false).getD j false) (τ 0) t = (τ 0).get t := fun t => none0 _ _ _ _ hL0 _
  have hs0 : Step P ι (σ 0).h.get w ι (σ 0).h.get { w with drawn := w.drawn + 1 } := Step.still (by rw [h3]; exact he) rfl rfl rfl rfl
  refine C.order (ι0 := ι) (w0 := w) (by rw [h3, h5]; exact hf) (Q := Q) (fun ι' a' w' k1 k2 k3 => ?_) ops.size _ a _ ι (by simp) ?_ ?_ ⟨by rw [hH0]; exact hs0, fun k hk => .inl hk, hT.1, hT.2.1, fun t => by rw [hT0, h4]; exact hT.2.2 t⟩
  · rw [h3, h5] at k1 k2
    rw [h6] at k3
    exact hQ ι' a' w' k1 k2 k3
  · rw [← hlen]
    have : ∀ n, cnt (fun j => (Array.replicate es.length false).getD j false) n ≤ n := fun n => by
      induction n with
      | zero => exact Nat.le_refl _
      | succ n ih => rw [cnt]; split <;> omega
    exact this _
  · intro i e _ hi
    exact absurd ((hL0 i).symm.trans hi) (by decide)
theorem Z01 (F : Fit P ext) {nt fu : Nat} {D : List Deferred} {ops : Array Oper} {es : List Ent} {T T' : Tr Value} {s s' : St} (hS : ∀ fu', fu' < fu → SOp P ext fu') (h : Ze9 P ext nt fu ops [] ops.toList T s = some (es, T', s')) (ho : ∀ p ∈ s'.ob, p.1 = p.2)
    {ι : Ren} {a : Act} {w : World} {Q : Exit → Act → World → Prop} {id : Nat} (hT : TR ι nt D T a) (he : Emb P ι s.h.get w) (hf : Fresh ι s.n s'.n)
    (hQ : ∀ ι' a' w', Step P ι s.h.get w ι' s'.h.get w' → Dom ι ι' s.n s'.n → TR ι' nt D T' a' → Q .normal a' w') : (Code.region id ops true).wp P Q a w :=
  wp_region_any F.mixed (Z2h F hS h ho hT he hf hQ)
end
section
variable {P : Program} {ext : FuncId → Option Ext}

def Zl6 (P : Program) (ι : Ren) (s : St) (w : World) (nt : Nat) (D : List Deferred) (e : Ex) (T' : Tr Value) (s' : St) (ex : Exit) (a' : Act) (w' : World) : Prop :=
 ex = e.out ∧ ∃ ι', Step P ι s.h.get w ι' s'.h.get w' ∧ Dom ι ι' s.n s'.n ∧ TR ι' nt D T' a'
theorem Step.two {ι ι1 ι2 : Ren} {s s1 s2 : St} {w w1 w2 : World} (a : Step P ι s.h.get w ι1 s1.h.get w1 ∧ Dom ι ι1 s.n s1.n) (b : Step P ι1 s1.h.get w1 ι2 s2.h.get w2 ∧ Dom ι1 ι2 s1.n s2.n) (h1 : s.n ≤ s1.n) (h2 : s1.n ≤ s2.n) :
  Step P ι s.h.get w ι2 s2.h.get w2 ∧ Dom ι ι2 s.n s2.n := ⟨a.1.trans b.1, a.2.trans b.2 h1 h2⟩
theorem Zrr {o : Oper} {c : Call} (h : Zm8 o = some c) : o.op = .call c ∧ True := by
 unfold Zm8 at h
 split at h
 ·rename_i c' ho
  split at h
  ·rename_i f hf
   injection h with h; subst h
   exact ⟨ho, trivial⟩
  ·injection h with h; subst h
   exact ⟨ho, trivial⟩
  ·cases h
 ·cases h
theorem Zny {ι : Ren} {a a' b b' : Array Value} (h : VRs ι a a') (k : VRs ι b b') : VRs ι (a ++ b) (a' ++ b') := by
 refine ⟨by simp [h.1, k.1], fun i x y hx hy => ?_⟩
 by_cases hi : i < a.size
 ·rw [Array.getElem?_append_left hi] at hx
  rw [Array.getElem?_append_left (by rw [← h.1]; exact hi)] at hy
  exact h.2 i x y hx hy
 ·rw [Array.getElem?_append_right (by omega)] at hx
  rw [Array.getElem?_append_right (by rw [← h.1]; omega), ← h.1] at hy
  exact k.2 _ x y hx hy
theorem Zpp {ι : Ren} {ρ ρ' : Operand → Value} {o : Oper} {c : Call} {f : FuncId} {args : Array Value} (hρ : ∀ x, VR ι (ρ x) (ρ' x)) (ho : o.op = .call c) (h : callee ρ c = some (f, args)) (w : World) :
  ∃ args', (execOp ρ' o).run P w = (callFunc f args').run P w ∧ VRs ι args args' := by
 unfold callee at h
 split at h
 ·rename_i x hx
  split at h
  ·rename_i g a b hg
   injection h with h; injection h with h1 h2; subst h1 h2
   have hv := hg ▸ hρ x
   have : ∃ a' b', ρ' x = .func (.func g) a' b' ∧ VRs ι a a' ∧ VRs ι b b' := by
    generalize ρ' x = x' at hv
    cases hv with
    | atom h =>
     simp [Ev.atom] at h
     obtain ⟨rfl, rfl⟩ := h
     exact ⟨_, _, rfl, ⟨rfl, fun i x y hx => by simp at hx⟩, ⟨rfl, fun i x y hx => by simp at hx⟩⟩
    | func hs ht h1 h2 => exact ⟨_, _, rfl, ⟨hs, h1⟩, ⟨ht, h2⟩⟩
   obtain ⟨a', b', hx', ha, hb⟩ := this
   refine ⟨a' ++ c.args.map ρ' ++ b', ?_, Zny (Zny ha (Zq4 hρ c.args)) hb⟩
   simp [execOp, ho, resolve, hx, hx', Deferred.ofValue, invoke, Result.andThen, Sem.run]
  ·cases h
 ·cases h
theorem ZvH {ι : Ren} {ρ ρ' : Operand → Value} {o : Oper} {c : Call} {f : FuncId} {args : Array Value} (hρ : ∀ x, VR ι (ρ x) (ρ' x)) (ho : o.op = .call c) (h : Zuf P ρ c = some (f, args)) (w : World) :
  ∃ args', (execOp ρ' o).run P w = (callFunc f args').run P w ∧ VRs ι args args' := by
 unfold Zuf at h
 split at h
 ·rename_i r name hc
  split at h
  ·rename_i t v hv
   obtain ⟨_, h⟩ := Zp h
   split at h
   ·rename_i g x hm
    obtain ⟨hx, h⟩ := Zp h
    injection h with h
    injection h with h1 h2
    subst h1 h2
    have hr : ρ' r = .iface t v := by
     have hv' := hv ▸ hρ r
     generalize ρ' r = x' at hv'
     cases hv' with
     | atom h => rfl
    refine ⟨#[x] ++ c.args.map ρ', ?_, Zny ⟨rfl, fun i y z hy hz => by
     rw [hy] at hz
     injection hz with hz
     subst hz
     rcases i with _ | i
     ·simp at hy; subst hy; exact VR.of_free1 hx
     ·simp at hy⟩ (Zq4 hρ c.args)⟩
    have hm' := ZkH w hm
    have e0 : (#[Value.iface t v] ++ Array.map ρ' c.args)[0]? = some (Value.iface t v) := by
     rw [Array.getElem?_append_left (by simp)]; rfl
    have e2 : (#[Value.iface t v] ++ Array.map ρ' c.args).extract 1 (#[Value.iface t v] ++ Array.map ρ' c.args).size = Array.map ρ' c.args := by
     apply Array.ext'
     simp [Array.toList_extract]
     rw [List.take_of_length_le (by simp)]
    simp only [execOp, ho, resolve, hc, hr, Sem.run_bind, Sem.run_pure, Result.andThen_ok, invoke, e0, callMethod, program, Sem.run, hm', e2]
   ·cases h
  ·cases h
 ·exact Zpp hρ ho h w
theorem Zl7 {ι : Ren} {s s' : St} {w : World} {v : Value} {o : Oper} {a : Act} {K : Act → World → Prop} {Q : Exit → Act → World → Prop} (h : Res P ((execOp a.eval o).run P w) s ι w v s')
  (hK : ∀ v' w' ι', Step P ι s.h.get w ι' s'.h.get w' → Dom ι ι' s.n s'.n → VR ι' v v' → K (a.put o.dst v') w') : o.wp P a w K Q := by
 obtain ⟨nx, w', ι', v', hr, hv, h1, h2, h3⟩ := h
 unfold Oper.wp
 try rw [hr]
 rcases hv with rfl | ⟨rfl, rfl⟩
 ·exact hK v' w' ι' h1 h2 h3
 ·exact hK undef w' ι' h1 h2 h3
theorem Zq6 {ι : Ren} {nt : Nat} {args args' : Array Value} (h : VRs ι args args') (hs : args.size ≤ nt) : TR ι nt [] (ZgX 0 args.toList .nil) { tmps := args' ++ Array.replicate (nt - args'.size) undef, defers := [] } := by
 have key : ∀ (l : List Value) (i : Nat) (T : Tr Value) (t : Nat), (ZgX i l T).get t = if i ≤ t ∧ t < i + l.length then l[t - i]? else T.get t := by
  intro l
  induction l with
  | nil => intro i T t; simp only [ZgX]; rw [if_neg (by rintro ⟨h1, h2⟩; simp only [List.length_nil] at h2; omega)]
  | cons v l ih =>
   intro i T t
   simp only [ZgX]
   rw [ih, Tr.get_set]
   by_cases h1 : t = i
   ·subst h1
    rw [if_neg (by omega), Zo, if_pos (by simp)]
    simp
   ·rw [Zh h1]
    by_cases h2 : i + 1 ≤ t ∧ t < i + 1 + l.length
    ·rw [if_pos h2, if_pos (by simp; omega)]
     have : t - i = (t - (i + 1)) + 1 := by omega
     rw [this, List.getElem?_cons_succ]
    ·rw [if_neg h2, if_neg (by simp; omega)]
 refine ⟨by simp [← h.1, hs], rfl, fun t => ?_⟩
 rw [key]
 by_cases ht : t < args.size
 ·have ht' : t < args'.size := by rw [← h.1]; exact ht
  rw [if_pos (by simp [ht])]
  have e1 : args.toList[t - 0]? = some args[t] := by simp [ht]
  rw [e1, Array.getD_eq_getD_getElem?, Array.getElem?_append_left ht', Array.getElem?_eq_getElem ht']
  exact h.2 t _ _ (Array.getElem?_eq_getElem ht) (Array.getElem?_eq_getElem ht')
 ·rw [if_neg (by simp; omega)]
  have ht' : args'.size ≤ t := by rw [← h.1]; omega
  rw [Array.getD_eq_getD_getElem?, Array.getElem?_append_right ht']
  have : (Array.replicate (nt - args'.size) undef)[t - args'.size]?.getD undef = undef := by
   rw [Array.getElem?_replicate]
   split <;> rfl
  rw [this]
  exact VR.undef'

theorem Zmd {c : Code} {Q Q' : Exit → Act → World → Prop} (hq : ∀ e a w, Q e a w → Q' e a w) : ∀ (n : Nat) (a : Act) (w : World), Code.rounds P c Q n a w → Code.rounds P c Q' n a w
 | 0, _, _, h => h
 | n + 1, a, w, h => by
  rw [rounds_succ] at h ⊢
  refine wp_mono h ?_
  intro e a1 w1 h1
  cases e with
  | normal => exact Zmd hq n a1 w1 h1
  | _ => exact hq _ _ _ h1
theorem Step.below {ι : Ren} {h : AH} {w w' : World} (e : Emb P ι h w) (hb : Below w.heap.size w w') : Step P ι h w ι h w' :=
 ⟨fun _ _ h => h, ⟨fun k c t q hk => by
   obtain ⟨b, q1, hz⟩ := e.obj k c t q hk
   exact ⟨b, q1, hz.imp id fun ⟨q0, C, q2, q3⟩ => ⟨q0, C, q2.on (hb.block b.1 (e.lt k b q1)), q3⟩⟩, fun k O hk => by
   obtain ⟨b, q1, q2⟩ := e.ro k O hk
   exact ⟨b, q1, q2.on (hb.block b.1 (e.lt k b q1))⟩, e.inj, fun k b hk => Nat.lt_of_lt_of_le (e.lt k b hk) hb.size, e.marks (fun _ _ h => h) (fun b hlt _ => hb.block b hlt) (fun _ _ _ _ h => h) (fun k d hk hd => .inr ⟨k, d, hk, hd, rfl⟩), e.tb⟩,
  hb.os, hb.tape, hb.output, hb.size, fun b hlt _ => hb.block b hlt, fun k b h1 h2 _ => (by rw [h1] at h2; cases h2), fun _ _ h1 _ => h1, fun _ _ h1 _ => h1⟩
theorem Zpq (F : Fit P ext) : ∀ fu : Nat,
  (∀ nt c T s e T' s', Zbl P ext nt fu c T s = some (e, T', s') → (∀ p ∈ s'.ob, p.1 = p.2) → ∀ ι D a w, TR ι nt D T a → Emb P ι s.h.get w → Fresh ι s.n s'.n → c.wp P (Zl6 P ι s w nt D e T' s') a w) ∧
  (∀ nt ops l T s T' s', Zih P ext nt fu ops l T s = some (T', s') → (∀ p ∈ s'.ob, p.1 = p.2) → ∀ ι D a w (Q : Exit → Act → World → Prop), TR ι nt D T a → Emb P ι s.h.get w → Fresh ι s.n s'.n →
   (∀ ι' a' w', Step P ι s.h.get w ι' s'.h.get w' → Dom ι ι' s.n s'.n → TR ι' nt D T' a' → Q .normal a' w') → wpList P ops Q l a w) ∧
  SOp P ext fu ∧
  (∀ f args s v s', Zij P ext fu f args s = some (v, s') → (∀ p ∈ s'.ob, p.1 = p.2) → ∀ ι w args', VRs ι args args' → Emb P ι s.h.get w → Fresh ι s.n s'.n → Calls P f args' w (Zw9 P ι s w v s')) ∧
  (∀ nt c T s e T' s', Zbl P ext nt fu (.loop c) T s = some (e, T', s') → (∀ p ∈ s'.ob, p.1 = p.2) → ∀ ι D a w, TR ι nt D T a → Emb P ι s.h.get w → Fresh ι s.n s'.n → Code.rounds P c (Zl6 P ι s w nt D e T' s') fu a w) := by
 intro fu
 induction fu using Nat.strongRecOn with
 | _ fu ihs =>
 cases fu with
 | zero => exact ⟨fun _ _ _ _ _ _ _ h => by simp [Zbl] at h, fun _ _ _ _ _ _ _ h => by simp [Zih, St.keep_eq] at h, fun _ _ _ _ _ _ h => by simp [Zii] at h, fun _ _ _ _ _ h => by simp [Zij] at h, fun _ _ _ _ _ _ _ h => by simp [Zbl] at h⟩
 | succ fu =>
  obtain ⟨ihC, ihO, ihP, ihF, ihL⟩ := ihs fu (Nat.lt_succ_self _)
  obtain ⟨upC, upO, upP, upF, upD, upE⟩ := ZfL (P := P) (ext := ext) (fun f g hg => (F.hp f g hg).up) fu
  have loops : ∀ nt c T s e T' s', Zbl P ext nt (fu + 1) (.loop c) T s = some (e, T', s') → (∀ p ∈ s'.ob, p.1 = p.2) → ∀ ι D a w, TR ι nt D T a → Emb P ι s.h.get w → Fresh ι s.n s'.n → Code.rounds P c (Zl6 P ι s w nt D e T' s') (fu + 1) a w := by
   intro nt x T s e T' s' h ho ι D a w hT he hf
   simp only [Zbl] at h
   rw [rounds_succ]
   split at h
   ·rename_i T1 s1 h1
    have u1 := upC _ _ _ _ _ _ _ h1
    have u2 := upC _ _ _ _ _ _ _ h
    refine wp_mono (ihC nt x T s .normal T1 s1 h1 (Zd9 u2.ob ho) ι D a w hT he (hf.mono (Nat.le_refl _) u2.n)) ?_
    rintro ex a1 w1 ⟨rfl, ι1, g1, g2, g3⟩
    refine Zmd ?_ fu a1 w1 (ihL nt x T1 s1 e T' s' h ho ι1 D a1 w1 g3 g1.emb (hf.after g2 u1.n))
    rintro ex2 a2 w2 ⟨rfl, ι2, k1, k2, k3⟩
    exact ⟨rfl, ι2, g1.trans k1, g2.trans k2 u1.n u2.n, k3⟩
   ·rename_i i T1 s1 h1
    injection h with h; simp only [Prod.mk.injEq] at h; obtain ⟨rfl, rfl, rfl⟩ := h
    refine wp_mono (ihC nt x T s _ _ _ h1 ho ι D a w hT he hf) ?_
    rintro ex a1 w1 ⟨rfl, hq⟩
    exact ⟨rfl, hq⟩
   ·rename_i T1 s1 h1
    injection h with h; simp only [Prod.mk.injEq] at h; obtain ⟨rfl, rfl, rfl⟩ := h
    refine wp_mono (ihC nt x T s _ _ _ h1 ho ι D a w hT he hf) ?_
    rintro ex a1 w1 ⟨rfl, hq⟩
    exact ⟨rfl, hq⟩
   ·cases h
  refine ⟨fun nt c T s e T' s' h ho ι D a w hT he hf => ?_, fun nt ops l T s T' s' h ho ι D a w Q hT he hf hQ => ?_, fun ρ ρ' o s v s' h ho ι w hρ he hf a K Q hex hK => ?_, fun f args s v s' h ho ι w args' ha he hf => ?_, loops⟩
  ·have base : Zl6 P ι s w nt D .normal T s .normal a w ∧ Zl6 P ι s w nt D .ret T s .ret a w ∧ ∀ i, Zl6 P ι s w nt D (.exit i) T s (.exit i) a w :=
    ⟨⟨rfl, ι, Step.refl he, Dom.refl, hT⟩, ⟨rfl, ι, Step.refl he, Dom.refl, hT⟩, fun i => ⟨rfl, ι, Step.refl he, Dom.refl, hT⟩⟩
   -- one part, then the other
   have chain : ∀ {s1 : St} {T1 : Tr Value} {c2 : Code} {a1 : Act} {w1 : World} {ι1 : Ren}, Up s s1 → Up s1 s' → Step P ι s.h.get w ι1 s1.h.get w1 → Dom ι ι1 s.n s1.n → TR ι1 nt D T1 a1 → Zbl P ext nt fu c2 T1 s1 = some (e, T', s') →
     c2.wp P (Zl6 P ι s w nt D e T' s') a1 w1 := fun {s1 T1 c2 a1 w1 ι1} u1 u2 h1 h2 h3 h4 => by
    refine wp_mono (ihC nt c2 T1 s1 e T' s' h4 ho ι1 D a1 w1 h3 h1.emb ((hf.mono (Nat.le_refl _) (Nat.le_refl _)).after h2 u1.n)) ?_
    rintro ex a2 w2 ⟨rfl, ι2, g1, g2, g3⟩
    exact ⟨rfl, ι2, (Step.two ⟨h1, h2⟩ ⟨g1, g2⟩ u1.n u2.n).1, (Step.two ⟨h1, h2⟩ ⟨g1, g2⟩ u1.n u2.n).2, g3⟩
   have h0 := h
   cases c <;> simp only [Zbl] at h
   case skip => injection h with h; simp only [Prod.mk.injEq] at h; obtain ⟨rfl, rfl, rfl⟩ := h; exact wp_skip base.1
   case label l => injection h with h; simp only [Prod.mk.injEq] at h; obtain ⟨rfl, rfl, rfl⟩ := h; exact wp_label base.1
   case scope c =>
    refine wp_scope_straight (wp_mono (ihC nt c T s e T' s' h ho ι D a w hT he hf) ?_)
    rintro ex a1 w1 ⟨rfl, hq⟩
    cases e <;> exact ⟨rfl, hq⟩
   case ret => injection h with h; simp only [Prod.mk.injEq] at h; obtain ⟨rfl, rfl, rfl⟩ := h; exact wp_ret base.2.1
   case exit id => injection h with h; simp only [Prod.mk.injEq] at h; obtain ⟨rfl, rfl, rfl⟩ := h; exact wp_exit (base.2.2 id)
   case seq x y =>
    split at h
    ·rename_i T1 s1 h1
     have u1 := upC _ _ _ _ _ _ _ h1
     have u2 := upC _ _ _ _ _ _ _ h
     refine wp_seq (wp_mono (ihC nt x T s .normal T1 s1 h1 (Zd9 u2.ob ho) ι D a w hT he (hf.mono (Nat.le_refl _) u2.n)) ?_)
     rintro ex a1 w1 ⟨rfl, ι1, g1, g2, g3⟩
     exact chain u1 u2 g1 g2 g3 h
    ·rename_i i T1 s1 h1
     injection h with h; simp only [Prod.mk.injEq] at h; obtain ⟨rfl, rfl, rfl⟩ := h
     refine wp_seq (wp_mono (ihC nt x T s _ _ _ h1 ho ι D a w hT he hf) ?_)
     rintro ex a1 w1 ⟨rfl, hq⟩
     exact ⟨rfl, hq⟩
    ·rename_i T1 s1 h1
     injection h with h; simp only [Prod.mk.injEq] at h; obtain ⟨rfl, rfl, rfl⟩ := h
     refine wp_seq (wp_mono (ihC nt x T s _ _ _ h1 ho ι D a w hT he hf) ?_)
     rintro ex a1 w1 ⟨rfl, hq⟩
     exact ⟨rfl, hq⟩
    ·cases h
   case cond x y z =>
    split at h
    ·rename_i t ht
     have hx : a.eval x = .bool t := Zkl ((ht ▸ hT.opnd x : VR ι (.bool t) (ZeD a x)).bool_inv)
     split at h
     ·exact wp_cond_true hx (ihC nt y T s e T' s' h ho ι D a w hT he hf)
     ·exact wp_cond_false hx (ihC nt z T s e T' s' h ho ι D a w hT he hf)
    ·cases h
   case block id x =>
    split at h
    ·rename_i i T1 s1 h1
     cases hb : Nat.beq i id with
     | true =>
      rw [hb] at h
      injection h with h; simp only [Prod.mk.injEq] at h; obtain ⟨rfl, rfl, rfl⟩ := h
      refine wp_block (wp_mono (ihC nt x T s _ _ _ h1 ho ι D a w hT he hf) ?_)
      rintro ex a1 w1 ⟨rfl, hq⟩
      show if i = id then _ else _
      rw [if_pos (Nat.eq_of_beq_eq_true hb)]
      exact ⟨rfl, hq⟩
     | false =>
      rw [hb] at h
      injection h with h; simp only [Prod.mk.injEq] at h; obtain ⟨rfl, rfl, rfl⟩ := h
      refine wp_block (wp_mono (ihC nt x T s _ _ _ h1 ho ι D a w hT he hf) ?_)
      rintro ex a1 w1 ⟨rfl, hq⟩
      show if i = id then _ else _
      rw [if_neg (fun e => by rw [ZkF e] at hb; cases hb)]
      exact ⟨rfl, hq⟩
    ·rename_i T1 s1 h1
     injection h with h; simp only [Prod.mk.injEq] at h; obtain ⟨rfl, rfl, rfl⟩ := h
     refine wp_block (wp_mono (ihC nt x T s _ _ _ h1 ho ι D a w hT he hf) ?_)
     rintro ex a1 w1 ⟨rfl, hq⟩
     exact ⟨rfl, hq⟩
    ·rename_i T1 s1 h1
     injection h with h; simp only [Prod.mk.injEq] at h; obtain ⟨rfl, rfl, rfl⟩ := h
     refine wp_block (wp_mono (ihC nt x T s _ _ _ h1 ho ι D a w hT he hf) ?_)
     rintro ex a1 w1 ⟨rfl, hq⟩
     exact ⟨rfl, hq⟩
    ·cases h
   case loop x =>
    exact wp_loop_rounds (fu + 1) (loops nt x T s e T' s' h0 ho ι D a w hT he hf)
   case region id ops draw =>
    cases draw with
    | true =>
     simp only [cond_true] at h
     split at h
     ·rename_i es T1 s1 h1
      injection h with h; simp only [Prod.mk.injEq] at h; obtain ⟨rfl, rfl, rfl⟩ := h
      exact Z01 F (fun fu' hfu => (ihs fu' (by omega)).2.2.1) h1 ho hT he hf fun ι' a' w' g1 g2 g3 => ⟨rfl, ι', g1, g2, g3⟩
     ·cases h
    | false =>
    simp only [cond_false] at h
    split at h
    ·rename_i T1 s1 h1
     injection h with h; simp only [Prod.mk.injEq] at h; obtain ⟨rfl, rfl, rfl⟩ := h
     refine wp_region_list (ihO nt ops ops.toList T s T1 s1 h1 ho ι D a w _ hT he hf fun ι' a' w' g1 g2 g3 => ⟨rfl, ι', g1, g2, g3⟩)
    ·cases h
   all_goals cases h
  ·cases l with
   | nil =>
    simp only [Zih, St.keep_eq] at h
    injection h with h; simp only [Prod.mk.injEq] at h; obtain ⟨rfl, rfl⟩ := h
    exact hQ ι a w (Step.refl he) Dom.refl hT
   | cons o l =>
    simp only [Zih, St.keep_eq] at h
    obtain ⟨hg, h⟩ := Zp h
    simp only [Bool.and_eq_true] at hg
    unfold wpList
    split at h
    ·rename_i s1 hw
     split at h
     ·rename_i v s2 hv
      have u1 := ZcK hw
      have u2 := upP _ _ _ _ _ hv
      have u3 := upO _ _ _ _ _ _ _ h
      obtain ⟨hwant, e2, e3⟩ := Zgz (fun t _ => hT.2.2 t) hw
      rw [if_pos hwant]
      refine .inl (ihP (opnd T) (ZeD a) o s1 v s2 hv (Zd9 u3.ob ho) ι w hT.opnd (e2 ▸ he) (e3 ▸ (hf.mono (Nat.le_refl _) u3.n)) a _ Q (Zl4 (ZrO hv) hg.2).symm fun v' w' ι' g1 g2 g3 => ?_)
      rw [e2] at g1
      rw [e3] at g2
      have hle : s.n ≤ s2.n := by rw [← e3]; exact u2.n
      exact ihO nt ops l (Zgx T o.dst v) s2 T' s' h ho ι' D _ w' Q ((hT.on g1.ext).put hg.1 g3) g1.emb (hf.after g2 hle) fun ι2 a2 w2 k1 k2 k3 =>
       hQ ι2 a2 w2 (g1.trans k1) (g2.trans k2 hle u3.n) k3
     ·cases h
    ·rename_i s1 hw
     have u1 := ZcK hw
     have u3 := upO _ _ _ _ _ _ _ h
     obtain ⟨hwant, e2, e3⟩ := Zgz (fun t _ => hT.2.2 t) hw
     rw [if_neg (by rw [hwant]; simp)]
     refine ihO nt ops l (Zgx T o.dst undef) s1 T' s' h ho ι D _ w Q (hT.put hg.1 VR.undef') (e2 ▸ he) (e3 ▸ hf) fun ι2 a2 w2 k1 k2 k3 => hQ ι2 a2 w2 (e2 ▸ k1) (e3 ▸ k2) k3
    ·cases h
  ·simp only [Zii] at h
   split at h
   ·rename_i c hc
    obtain ⟨hop, _⟩ := Zrr hc
    split at h
    ·rename_i f args hcal
     obtain ⟨args', hrun, hargs⟩ := ZvH (P := P) hρ hop hcal w
     rw [← hex] at hrun
     split at h
     ·rename_i kk e hx
      split at h
      ·rename_i z c1 s1 hw
       obtain ⟨e1, e2, _⟩ := Zad hw
       obtain ⟨s2, s3, h4, e3, e4, e5, e6, ho3⟩ := Z00 ho h rfl
       exact Zl7 (((hrun ▸ Zpk F hx hargs (s := s2) (by rw [e3, e1]; exact he) ho3 h4).heap (e3.trans e1).symm (e4.trans e2).symm).behind e5 e6) hK
      ·cases h
      ·rename_i s1 hw
       obtain ⟨e1, e2, _⟩ := Zad hw
       exact Zl7 ((hrun ▸ Zpk F hx hargs (s := s1) (e1 ▸ he) ho h).heap e1.symm e2.symm) hK
     ·rename_i n hx
      exact Zl7 (hrun ▸ Z0z F hx hargs he h) hK
     ·rename_i g hx
      have hd := F.hp f g hx
      unfold Oper.wp
      rcases hd.does args s v s' h ho ι w args' hargs he hf with ⟨⟨fn, c', hfn, hb⟩, hcalls⟩ | ⟨v1, w1, hr, v', ι', hv, g1, g2, g3⟩
      ·rw [hrun, Zfj hfn (F.go f fn hfn) hb, Oper.upon_enter]
       refine hcalls.mono ?_
       rintro e2 w2 ⟨v', ι', rfl, g1, g2, g3⟩
       exact hK v' w2 ι' g1 g2 g3
      ·injection hv with hv
       subst hv
       rw [hrun, hr, Oper.upon_value]
       exact hK v1 w1 ι' g1 g2 g3
     ·rename_i S hx
      split at h
      ·rename_i pre u post dn s1 hw
       obtain ⟨e1, e2, _⟩ := Zad hw
       obtain ⟨⟨fn, c', hfn, hb⟩, hS⟩ := F.tc f S hx
       unfold Oper.wp
       rw [hrun, Zfj hfn (F.go f fn hfn) hb, Oper.upon_enter]
       refine (Z0y hS h ho hargs (e1 ▸ he) (e2 ▸ hf)).mono ?_
       rintro e2' w2 ⟨v', ι', rfl, g1, g2, g3⟩
       exact hK v' w2 ι' (e1 ▸ g1) (e2 ▸ g2) g3
      ·cases h
     ·rename_i g hx
      unfold Z0f at h
      obtain ⟨hfree, h⟩ := Zp h
      split at h
      ·rename_i v1 hg
       obtain ⟨hfv, h⟩ := Zp h
       injection h with h; injection h with q1 q2; subst q1 q2
       have hae : args' = args := ZrJ hargs.1 fun i x y hx1 hy1 => (hargs.2 i x y hx1 hy1).eq_of_free (ZbH hfree i x hx1)
       subst hae
       obtain ⟨⟨fn, c', hfn, hb⟩, hcall⟩ := F.fn f g hx
       unfold Oper.wp
       rw [hrun, Zfj hfn (F.go f fn hfn) hb, Oper.upon_enter]
       refine (hcall args' v1 hfree hg w he.tabw).mono ?_
       rintro e2 w2 ⟨rfl, hbel⟩
       exact hK v1 w2 ι (Step.below he hbel) Dom.refl (VR.of_free hfv)
      ·cases h
     ·have hcalls := ihF f args s v s' h ho ι w args' hargs he hf
      cases fu with
      | zero => simp [Zij] at h
      | succ fu' =>
       have h' := h
       simp only [Zij] at h'
       split at h'
       ·rename_i fn hfn
        split at h'
        ·rename_i c' hb
         unfold Oper.wp
         rw [hrun, Zfj hfn (F.go f fn hfn) hb, Oper.upon_enter]
         refine hcalls.mono ?_
         rintro e2 w2 ⟨v', ι', rfl, g1, g2, g3⟩
         exact hK v' w2 ι' g1 g2 g3
        ·cases h'
       ·cases h'
    ·cases h
   ·split at h
    ·rename_i v1 s1 h1
     injection h with h
     obtain ⟨e1, e2, e3⟩ := Z2D h ho
     subst e1
     rw [e2, e3] at hK
     rw [e3] at hf
     have := Z1g hρ he hf (Zd9 (ZzI h).ob ho) h1
     rw [← hex] at this
     exact Zl7 this hK
    ·cases h
  ·simp only [Zij] at h
   split at h
   ·rename_i fn hfn
    split at h
    ·rename_i c hb
     obtain ⟨hsz, h⟩ := Zp h
     have hle : args.size ≤ fn.ntmps := Nat.le_of_ble_eq_true hsz
     split at h
     ·cases h
     ·rename_i ex T1 s1 hne h1
      have hs : s' = s1 ∧ (match Zdr P T1 s1 fn.results.toList with | some [v] => some v | some vs => some (.tuple vs.toArray) | none => none) = some v := by
       split at h
       ·rename_i hr; injection h with h; injection h with q1 q2; subst q1 q2; exact ⟨rfl, by first | rw [hr] | rfl⟩
       ·rename_i vs hn hr; injection h with h; injection h with q1 q2; subst q1 q2
        refine ⟨rfl, ?_⟩
        try rw [hr]
        rcases vs with _ | ⟨x, _ | ⟨y, vs⟩⟩
        ·rfl
        ·exact absurd rfl (hn x)
        ·rfl
       ·cases h
      obtain ⟨rfl, hres⟩ := hs
      refine calls_of_wp hfn hb (wp_mono (ihC fn.ntmps c _ s ex T1 s' h1 ho ι [] _ w (Zq6 ha hle) he hf) ?_)
      rintro e2 a2 w2 ⟨rfl, ι2, g1, g2, g3⟩
      obtain ⟨v', hrun, hv⟩ := Zma g3 g1.emb hres
      cases ex with
      | normal => exact ⟨g3.2.1, v', hrun, v', ι2, rfl, g1, g2, hv⟩
      | ret => exact ⟨g3.2.1, v', hrun, v', ι2, rfl, g1, g2, hv⟩
      | exit i => exact (hne i rfl).elim
     ·cases h
    ·cases h
   ·cases h

theorem Z2M {ι : Ren} : VRs ι ([] : List Value).toArray ([] : List Value).toArray := ⟨rfl, fun i x y hx => by simp at hx⟩
theorem ZrP {ι : Ren} {x y : Value} {l l' : List Value} (h : VR ι x y) (t : VRs ι l.toArray l'.toArray) : VRs ι (x :: l).toArray (y :: l').toArray := by
 refine ⟨by simpa using t.1, fun i u v hu hv => ?_⟩
 cases i with
 | zero => simp at hu hv; subst hu hv; exact h
 | succ i => exact t.2 i u v (by simpa using hu) (by simpa using hv)
theorem VRs.of_free {ι : Ren} {args : Array Value} (ha : Z5 free args.toList = true) : VRs ι args args := ⟨rfl, fun i x y hx hy => by rw [hx] at hy; injection hy with hy; subst hy; exact VR.of_free (ZbH ha i x hx)⟩
end
noncomputable section
end
section
variable {P : Program} {ext : FuncId → Option Ext}
end
def renA (ρ : Nat → Nat) : Value → Value
 | .pointer (some ⟨k, o, none⟩) => .pointer (some ⟨ρ k, o, none⟩)
 | .slice (some ⟨k, o, none⟩) n c => .slice (some ⟨ρ k, o, none⟩) n c
 | .map (some k) => .map (some (ρ k))
 | v => v
section
variable (f : Value → Value) (a : Array Value)
def Zhn : Array Value := (a.toList.map f).toArray
theorem ZzL : Zhn f a = a.map f := by
 unfold Zhn
 apply Array.ext' 
 simp
end
def Za4 (ρ : Nat → Nat) : Nat → Value → Value
 | d + 1, .agg cs => .agg (Zhn (Za4 ρ d) cs)
 | d + 1, .tuple cs => .tuple (Zhn (Za4 ρ d) cs)
 | d + 1, .func f a b => .func f (Zhn (Za4 ρ d) a) (Zhn (Za4 ρ d) b)
 | _, v => renA ρ v
def Zap : Nat → Value → Bool
 | d + 1, .agg cs => Z5 (Zap d) cs.toList
 | d + 1, .tuple cs => Z5 (Zap d) cs.toList
 | d + 1, .func _ a b => Z5 (Zap d) a.toList && Z5 (Zap d) b.toList
 | 0, .agg _ => false
 | 0, .tuple _ => false
 | 0, .func _ a b => a.isEmpty && b.isEmpty
 | _, _ => true
section
variable {P : Program} {ext : FuncId → Option Ext}
theorem Zkw {ι : Ren} {f : Value → Value} {a a' : Array Value} (hs : a.size = a'.size) (h : ∀ (i : Nat) x y, a[i]? = some x → a'[i]? = some y → VR ι (f x) y) : (Zhn f a).size = a'.size ∧ ∀ (i : Nat) x y, (Zhn f a)[i]? = some x → a'[i]? = some y → VR ι x y := by
 rw [ZzL]
 refine ⟨by simpa using hs, fun i x y hx hy => ?_⟩
 rw [Array.getElem?_map] at hx
 cases ha : a[i]? with
 | none => rw [ha] at hx; cases hx
 | some z => rw [ha] at hx; injection hx with hx; subst hx; exact h i z y ha hy
theorem Zvx {ρ : Nat → Nat} {v : Value} (h : atom v = true) : renA ρ v = v := by
 cases v with
 | pointer a => cases a with
  | none => rfl
  | some a => simp [atom] at h
 | slice a n c => cases a with
  | none => rfl
  | some a => simp [atom] at h
 | map a => cases a with
  | none => rfl
  | some a => simp [atom] at h
 | _ => rfl
theorem Zjz {ρ : Nat → Nat} (d : Nat) {v : Value} (h : atom v = true) : Za4 ρ d v = v := by
 cases d with
 | zero => exact Zvx h
 | succ d =>
  cases v with
  | agg cs => simp [atom] at h
  | tuple cs => simp [atom] at h
  | func f a b =>
   cases f <;> simp [atom] at h
   obtain ⟨h1, h2⟩ := h
   subst h1 h2
   simp [Za4, Zhn]
  | _ => exact Zvx h
theorem ZiT {ι ι2 : Ren} {ρ : Nat → Nat} (hι : ∀ k b, ι k = some b → ι2 (ρ k) = some b) (hm : ∀ b base id, ρ (Zai b base id) = Zai b base id) : ∀ (d : Nat) (v v' : Value), VR ι v v' → Zap d v = true → VR ι2 (Za4 ρ d v) v'
 | d, v, v', h, hd => by
  cases h with
  | atom h => rw [Zjz d h]; exact .atom h
  | glob h => cases d <;> exact .glob h
  | ptr h => cases d <;> exact .ptr (hι _ _ h)
  | map h => cases d <;> exact .map (hι _ _ h)
  | slice h hn hc hq => cases d <;> exact .slice (hι _ _ h) hn hc hq
  | slice0 h =>
   rename_i A _
   obtain ⟨k, o, sp⟩ := A
   cases sp <;> cases d <;> exact .slice0 h
  | mptr h =>
   have h' := hι _ _ h
   rw [hm] at h'
   cases d <;> exact .mptr h'
  | mslice h hn hc =>
   have h' := hι _ _ h
   rw [hm] at h'
   cases d <;> exact .mslice h' hn hc
  | func hs ht h1 h2 =>
   cases d with
   | zero =>
    simp only [Zap, Bool.and_eq_true, Array.isEmpty_iff] at hd
    obtain ⟨rfl, rfl⟩ := hd
    exact .func hs ht (fun i x y hx => by simp at hx) (fun i x y hx => by simp at hx)
   | succ d =>
    simp only [Zap, Bool.and_eq_true] at hd
    obtain ⟨q1, q2⟩ := Zkw (f := Za4 ρ d) hs fun i x y hx hy => ZiT hι hm d x y (h1 i x y hx hy) (ZbH hd.1 i x hx)
    obtain ⟨q3, q4⟩ := Zkw (f := Za4 ρ d) ht fun i x y hx hy => ZiT hι hm d x y (h2 i x y hx hy) (ZbH hd.2 i x hx)
    exact .func q1 q3 q2 q4
  | agg hs h1 =>
   cases d with
   | zero => simp [Zap] at hd
   | succ d =>
    simp only [Zap] at hd
    obtain ⟨q1, q2⟩ := Zkw (f := Za4 ρ d) hs fun i x y hx hy => ZiT hι hm d x y (h1 i x y hx hy) (ZbH hd i x hx)
    exact .agg q1 q2
  | tuple hs h1 =>
   cases d with
   | zero => simp [Zap] at hd
   | succ d =>
    simp only [Zap] at hd
    obtain ⟨q1, q2⟩ := Zkw (f := Za4 ρ d) hs fun i x y hx hy => ZiT hι hm d x y (h1 i x y hx hy) (ZbH hd i x hx)
    exact .tuple q1 q2
theorem Z02 {ι ι2 : Ren} {ρ : Nat → Nat} (hι : ∀ k b, ι k = some b → ι2 (ρ k) = some b) (hm : ∀ b base id, ρ (Zai b base id) = Zai b base id) {v v' : Value} (h : VR ι v v') : ∃ u, VR ι2 u v' := by
 have arr : ∀ {a a' : Array Value}, a.size = a'.size → (∀ (i : Nat) x y, a[i]? = some x → a'[i]? = some y → ∃ u, VR ι2 u y) → ∃ c : Array Value, c.size = a'.size ∧ ∀ (i : Nat) x y, c[i]? = some x → a'[i]? = some y → VR ι2 x y := fun {a a'} hs hx => by
  have each : ∀ i : Fin a'.size, ∃ u, VR ι2 u a'[i] := fun i => hx i a[i] a'[i] (Array.getElem?_eq_getElem (by omega)) (Array.getElem?_eq_getElem i.2)
  refine ⟨Array.ofFn fun i => (each i).choose, by simp, fun i x y h1 h2 => ?_⟩
  obtain ⟨hlt, rfl⟩ := Array.getElem?_eq_some_iff.1 h2
  rw [Array.getElem?_ofFn, dif_pos hlt] at h1
  injection h1 with h1
  subst h1
  exact (each ⟨i, hlt⟩).choose_spec
 induction h with
 | atom h => exact ⟨_, .atom h⟩
 | glob h => exact ⟨_, .glob (g := 0) h⟩
 | ptr h => exact ⟨_, .ptr (hι _ _ h)⟩
 | map h => exact ⟨_, .map (hι _ _ h)⟩
 | slice h hn hc hq => exact ⟨_, .slice (hι _ _ h) hn hc hq⟩
 | slice0 h => exact ⟨_, .slice0 (A := ⟨0, 0, none⟩) h⟩
 | mptr h =>
  have h' := hι _ _ h
  rw [hm] at h'
  exact ⟨_, .mptr (z := 0) h'⟩
 | mslice h hn hc =>
  have h' := hι _ _ h
  rw [hm] at h'
  exact ⟨_, .mslice (z := 0) h' hn hc⟩
 | func hs ht h1 h2 ih1 ih2 =>
  obtain ⟨c, q1, q2⟩ := arr hs ih1
  obtain ⟨d, q3, q4⟩ := arr ht ih2
  exact ⟨_, .func q1 q3 q2 q4⟩
 | agg hs h1 ih =>
  obtain ⟨c, q1, q2⟩ := arr hs ih
  exact ⟨_, .agg q1 q2⟩
 | tuple hs h1 ih =>
  obtain ⟨c, q1, q2⟩ := arr hs ih
  exact ⟨_, .tuple q1 q2⟩
noncomputable def ZwA : Nat → Nat → (Nat → Option Value) → (Nat → Value) → Tr Value → Tr Value
 | 0, _, _, _, T => T
 | n + 1, t, L, gv, T => ZwA n (t + 1) L gv (T.set t (some (match L t with | some v => v | none => gv t)))
section
variable (nt : Nat) (L : Nat → Option Value) (gv : Nat → Value)
noncomputable def tmps : Tr Value := ZwA nt 0 L gv .nil
theorem Zvy (L : Nat → Option Value) (gv : Nat → Value) : ∀ (n t : Nat) (T : Tr Value) (k : Nat), (ZwA n t L gv T).get k = if t ≤ k ∧ k < t + n then some (match L k with | some v => v | none => gv k) else T.get k
 | 0, t, T, k => by rw [if_neg (by omega)]; rfl
 | n + 1, t, T, k => by
  show (ZwA n (t + 1) L gv _).get k = _
  rw [Zvy L gv n (t + 1), Tr.get_set]
  by_cases hk : k = t
  ·subst hk
   rw [if_neg (by omega), Zo, if_pos (by omega)]
  ·rw [Zh hk]
   by_cases h : t + 1 ≤ k ∧ k < t + 1 + n
   ·rw [if_pos h, if_pos (by omega)]
   ·rw [if_neg h, if_neg (by omega)]
theorem Zxu (k : Nat) : (tmps nt L gv).get k = if k < nt then some (match L k with | some v => v | none => gv k) else none := by
 unfold tmps
 rw [Zvy]
 by_cases h : k < nt
 ·rw [if_pos (by omega), if_pos h]
 ·rw [if_neg (by omega), if_neg h]; rfl
end
def At (P : Program) (nt : Nat) (T : Tr Value) (h : AH) (m M : Nat) (ι0 : Ren) (h0 : AH) (w0 : World) (a : Act) (w : World) : Prop :=
 ∃ ι, TR ι nt [] T a ∧ Step P ι0 h0 w0 ι h w ∧ ∀ k, m ≤ k → k < M → ι k = none
theorem Zkx (b base id : Nat) : ZcP (Zai b base id) := Zf5 b base id
section
variable (live : List Nat) (M : Nat)
def rho (k : Nat) : Nat := if M ≤ k ∧ k % 2 = 0 then k else if k ∈ live then live.idxOf k else if k < M then M + 2 * k + 1 else k + 2 * M
def sig (j : Nat) : Option Nat :=
 if j < live.length then live[j]?
 else if M ≤ j then
  (if j % 2 = 0 then some j else if j < 3 * M then (if (j - M - 1) / 2 ∉ live then some ((j - M - 1) / 2) else none) else if j - 2 * M ∉ live then some (j - 2 * M) else none)
 else none
end
theorem Z2N {live : List Nat} {M : Nat} (hM : live.length ≤ M) (h2 : M % 2 = 0) (hl : ∀ k ∈ live, k < M) (k : Nat) : sig live M (rho live M k) = some k := by
 unfold rho
 split
 ·rename_i h
  unfold sig
  rw [if_neg (by omega), if_pos h.1, if_pos h.2]
 ·rename_i h
  split
  ·rename_i hk
   have hlt := List.idxOf_lt_length_of_mem hk
   unfold sig
   rw [if_pos hlt, List.getElem?_eq_getElem hlt]
   simp
  ·rename_i hk
   split
   ·rename_i hkM
    unfold sig
    have e : (M + 2 * k + 1 - M - 1) / 2 = k := by omega
    rw [if_neg (by omega), if_pos (by omega), if_neg (by omega), if_pos (by omega), e, if_pos hk]
   ·rename_i hkM
    unfold sig
    have e : k + 2 * M - 2 * M = k := by omega
    rw [if_neg (by omega), if_pos (by omega), if_neg (by omega), if_neg (by omega), e, if_pos hk]
theorem Zq7 {live : List Nat} {M : Nat} (hn : live.Nodup) (h2 : M % 2 = 0) (hl : ∀ k ∈ live, k < M) {j k : Nat} (h : sig live M j = some k) : rho live M k = j := by
 unfold sig at h
 split at h
 ·rename_i hlt
  rw [List.getElem?_eq_getElem hlt] at h
  injection h with h
  subst h
  have hm : live[j] ∈ live := List.getElem_mem hlt
  have := hl _ hm
  unfold rho
  rw [if_neg (by omega), if_pos hm]
  exact hn.idxOf_getElem j hlt
 ·split at h
  ·split at h
   ·injection h with h
    subst h
    unfold rho
    rw [if_pos ⟨by assumption, by assumption⟩]
   ·split at h
    ·split at h
     ·rename_i hc
      injection h with h
      subst h
      unfold rho
      rw [if_neg (by omega), if_neg hc, if_pos (by omega)]
      omega
     ·cases h
    ·split at h
     ·rename_i hc
      injection h with h
      subst h
      unfold rho
      rw [if_neg (by omega), if_neg hc, if_neg (by omega)]
      omega
     ·cases h
  ·cases h
theorem FzC.ren {ι ι2 : Ren} {ρ : Nat → Nat} (hι : ∀ k b, ι k = some b → ι2 (ρ k) = some b) (hm : ∀ b base id, ρ (Zai b base id) = Zai b base id) {w : World} {b base id : Nat} (h : FzC ι w b base id) : FzC ι2 w b base id := by
 obtain ⟨c, C, t, fr, h1, h2, h3, h4, h5⟩ := h
 refine ⟨c, C, t, fr, h1, h2, h3, fun i x y hx hy => ?_, h5⟩
 have hv := h4 i x y hx hy
 unfold Zw at hx
 rw [List.getElem?_map] at hx
 cases hb : c[i]? with
 | none => rw [hb] at hx; cases hx
 | some z =>
  rw [hb] at hx
  injection hx with hx
  subst hx
  have := ZiT hι hm 0 _ _ hv (by cases z <;> rfl)
  have e : Za4 ρ 0 (ZdO z) = ZdO z := by cases z <;> rfl
  rwa [e] at this
theorem Z2O {c c' r : List Value} {f : Value → Value} {q : Bool} (hcr : c'.map f = c ++ r) (hq : q = true → r = []) (h : q = true) : c'.isEmpty = c.isEmpty := by
 rw [hq h, List.append_nil] at hcr
 subst hcr
 cases c' <;> rfl
theorem Z2P {c c' r : List Value} {f : Value → Value} {t : TypeId} {q : Bool} (hcr : c'.map f = c ++ r) (hq : q = true → r = []) (h : isC (some (.cells c t q)) = true) : isC (some (.cells c' t q)) = true := by
 cases q with
 | false => rfl
 | true =>
  have e := Z2O hcr hq rfl
  show (!c'.isEmpty) = true
  rw [e]; exact h
theorem Zxv {c c' r : List Value} {f : Value → Value} {t : TypeId} {q : Bool} {b : Nat × Nat} (hcr : c'.map f = c ++ r) (hq : q = true → r = []) (h : Zag (some (.cells c t q)) b = true) : Zag (some (.cells c' t q)) b = true := by
 unfold Zag at h ⊢
 rcases Bool.or_eq_true _ _ ▸ h with h | h
 ·rw [Z2P hcr hq h]; rfl
 ·rw [show isQ (some (AObj.cells c' t q)) = isQ (some (AObj.cells c t q)) from rfl, h, Bool.or_true]
theorem Zxw {nt : Nat} {ι0 ι : Ren} {h0 h : AH} {w0 w : World} {T : Tr Value} {a : Act} (hT : TR ι nt [] T a) (hS : Step P ι0 h0 w0 ι h w)
  (live : List Nat) (m M : Nat) (hM : M = 1000000000) (hll : ∀ k ∈ live, k < M) (hlen : live.length = m) (hmM : m ≤ M) (hn : live.Nodup) (h3 : ∀ k, ι0 k ≠ none → live[k]? = some k ∨ ZcP k)
  (L : Nat → Option Value) (hL : ∀ t v, t < nt → L t = some v → v = Za4 (rho live M) 3 ((T.get t).getD undef) ∧ Zap 3 ((T.get t).getD undef) = true)
  (g : AH) (hg : ∀ j o, g j = some o → ∃ k, live[j]? = some k ∧ match o with
   | .ro O m => h k = some (.ro O m)
   | .cells c t q => ∃ c' r, h k = some (.cells c' t q) ∧ c'.map (Za4 (rho live M) 1) = c ++ r ∧ (q = true → r = []) ∧ Z5 (Zap 1) c' = true) :
  ∃ gv ι', TR ι' nt [] (tmps nt L gv) a ∧ Step P ι0 h0 w0 ι' g w ∧ (∀ k, m ≤ k → k < M → ι' k = none) ∧ (∀ j b, Za3 (g j) b = true ∨ ZcP j → ι' j = some b → ∃ k, (Za3 (h k) b = true ∨ ZcP k) ∧ ι k = some b) ∧ ∀ j k, live[j]? = some k → ι' j = ι k := by
 have h2M : M % 2 = 0 := by omega
 have s1 := fun k => Z2N (live := live) (M := M) (by omega) h2M hll k
 have rm : ∀ b base id, rho live M (Zai b base id) = Zai b base id := fun b base id => by
  have := Zf5 b base id
  unfold rho
  rw [if_pos ⟨by omega, this.2⟩]
 have hι : ∀ k b, ι k = some b → (fun j => (sig live M j).bind ι) (rho live M k) = some b := fun k b hk => by
  simp only [s1 k, Option.bind_some, hk]
 have hlive : ∀ j k, live[j]? = some k → sig live M j = some k := fun j k hk => by
  have hlt := (List.getElem?_eq_some_iff.1 hk).1
  unfold sig
  rw [if_pos hlt]
  exact hk
 have back : ∀ j b, (sig live M j).bind ι = some b → ∃ k, sig live M j = some k ∧ ι k = some b := fun j b hj => by
  cases hs : sig live M j with
  | none => rw [hs] at hj; cases hj
  | some k => rw [hs] at hj; exact ⟨k, rfl, hj⟩
 have sm : ∀ k, ZcP k → sig live M k = some k := fun k hk => by
  unfold ZcP at hk
  unfold sig
  rw [if_neg (by omega), if_pos (by omega), if_pos hk.2]
 have old : ∀ k, ι0 k ≠ none → sig live M k = some k := fun k hk => (h3 k hk).elim (hlive k k) (sm k)
 have gC : ∀ j b, Zag (g j) b = true → ∃ k, sig live M j = some k ∧ Zag (h k) b = true := fun j b hj => by
  cases hx : g j with
  | none => rw [hx] at hj; cases hj
  | some o =>
   obtain ⟨k, hk, ho⟩ := hg j o hx
   cases o with
   | ro O m1 => rw [hx] at hj; exact ⟨k, hlive j k hk, by rw [show h k = some (.ro O m1) from ho]; exact hj⟩
   | cells c t q => obtain ⟨c', r, hc, hcr, hq, _⟩ := ho; exact ⟨k, hlive j k hk, by rw [hc]; rw [hx] at hj; exact Zxv hcr hq hj⟩
 have gS : ∀ j b, Za3 (g j) b = true → ∃ k, sig live M j = some k ∧ Za3 (h k) b = true := fun j b hj => by
  cases hx : g j with
  | none => rw [hx] at hj; cases hj
  | some o =>
   obtain ⟨k, hk, ho⟩ := hg j o hx
   cases o with
   | ro O m1 => exact ⟨k, hlive j k hk, by rw [show h k = some (.ro O m1) from ho]; rfl⟩
   | cells c t q => obtain ⟨c', r, hc, hcr, hq, _⟩ := ho; exact ⟨k, hlive j k hk, by rw [hc]; rw [hx] at hj; exact Zxv hcr hq hj⟩
 have garb : ∀ t, ∃ u, VR (fun j => (sig live M j).bind ι) u (a.tmps.getD t undef) := fun t => Z02 hι rm (hT.2.2 t)
 refine ⟨fun t => (garb t).choose, fun j => (sig live M j).bind ι, ⟨hT.1, hT.2.1, fun t => ?_⟩, ⟨fun k b hk => ?_, ⟨fun j c t q hj => ?_, fun j O hj => ?_, fun j j' b b' h1 h2 h4 h5 h6 => ?_, fun j b hj => ?_, fun b base id q hq => ?_, fun x hx => (hS.emb.tb x hx).imp fun q hq => by
  show (sig live M (Zai x.1 0 (code x.2))).bind ι = some q
  rw [sm _ (Zkx x.1 0 (code x.2))]; exact hq⟩, hS.os, hS.tape, hS.output, hS.size, hS.frame, fun j b h1 h2 h0 => ?_, fun j b h1 h2 => ?_, fun j b h1 h2 => ?_⟩, fun j h1 h2 => ?_, fun j b hs hj => ?_, fun j k hk => by
  show (sig live M j).bind ι = ι k
  rw [hlive j k hk]; rfl⟩
 ·rw [Zxu]
  by_cases ht : t < nt
  ·rw [if_pos ht]
   cases hl : L t with
   | none => exact (garb t).choose_spec
   | some v =>
    obtain ⟨e, hd⟩ := hL t v ht hl
    subst e
    exact ZiT hι rm 3 _ _ (hT.2.2 t) hd
  ·rw [if_neg ht]
   have : a.tmps.getD t undef = undef := by
    have := hT.1
    simp [Array.getD, show ¬ t < a.tmps.size by omega]
   rw [this]
   exact VR.undef'
 ·show (sig live M k).bind ι = some b
  rw [old k (by rw [hk]; simp)]
  exact hS.ext k b hk
 ·obtain ⟨k, hk, c', r, hc, hcr, hq, hd⟩ := hg j _ hj
  obtain ⟨b, hb, ⟨z1, z2, z3⟩ | ⟨z1, C, hB, hC, hQ⟩⟩ := hS.emb.obj k c' t q hc
  ·refine ⟨b, by show (sig live M j).bind ι = some b; rw [hlive j k hk]; exact hb, .inl ⟨z1, ?_, z3⟩⟩
   subst z2
   have := congrArg List.length hcr
   simp at this
   exact List.eq_nil_of_length_eq_zero (by omega)
  have hqc : Zag (some (.cells c t q)) b = true := by
   cases q with
   | false => rfl
   | true =>
    rw [hq rfl, List.append_nil] at hcr
    rw [← hcr]
    cases c' with
    | nil => exact z1
    | cons x c' => rfl
  have hle : c.length ≤ c'.length := by
   have := congrArg List.length hcr
   simp at this
   omega
  refine ⟨b, by show (sig live M j).bind ι = some b; rw [hlive j k hk]; exact hb, .inr ⟨hqc, C, hB, ⟨Nat.le_trans hle hC.1, fun i x y hx hy => ?_⟩, hQ⟩⟩
  have hx' : (c'.map (Za4 (rho live M) 1))[i]? = some x := by
   rw [hcr, List.getElem?_append_left (List.getElem?_eq_some_iff.1 hx).1]
   exact hx
  rw [List.getElem?_map] at hx'
  cases hz : c'[i]? with
  | none => rw [hz] at hx'; cases hx'
  | some z =>
   rw [hz] at hx'
   injection hx' with hx'
   subst hx'
   exact ZiT hι rm 1 z y (hC.2 i z y hz hy) (ZaG hd z (List.mem_of_getElem? hz))
 ·obtain ⟨k, hk, hr⟩ := hg j _ hj
  obtain ⟨b, hb, hB⟩ := hS.emb.ro k O hr
  exact ⟨b, by show (sig live M j).bind ι = some b; rw [hlive j k hk]; exact hb, hB⟩
 ·obtain ⟨k, q1, q2⟩ := gC j b h1
  obtain ⟨k', q3, q4⟩ := gS j' b' h2
  obtain ⟨_, e1, e2⟩ := back j b h4
  rw [q1] at e1; injection e1 with e1; subst e1
  obtain ⟨_, e3, e4⟩ := back j' b' h5
  rw [q3] at e3; injection e3 with e3; subst e3
  have := hS.emb.inj k k' b b' q2 q4 e2 e4 h6
  subst this
  rw [← Zq7 hn h2M hll q1, ← Zq7 hn h2M hll q3]
 ·obtain ⟨k, _, e2⟩ := back j b hj
  exact hS.emb.lt k b e2
 ·obtain ⟨k, e1, e2⟩ := back _ q hq
  rw [sm _ (Zkx b base id)] at e1; injection e1 with e1; subst e1
  obtain ⟨m1, m2, m3⟩ := hS.emb.mks b base id q e2
  refine ⟨m1, ⟨m2.1.ren hι rm, fun o c hc => by
   have := hι _ _ (m2.2 o c hc)
   rw [rm] at this
   exact this⟩, fun k d hk hd => ?_⟩
  obtain ⟨k', q1, q2⟩ := gC k d hk
  obtain ⟨k2, e3, e4⟩ := back k d hd
  rw [q1] at e3; injection e3 with e3; subst e3
  exact m3 k' d q2 e4
 ·obtain ⟨k, e1, e2⟩ := back j b h2
  have h0' : Za3 (h k) b = true ∨ ZcP k := by
   rcases h0 with h0 | h0
   ·obtain ⟨k2, q1, q2⟩ := gS j b h0
    rw [e1] at q1; injection q1 with q1; subst q1
    exact .inl q2
   ·rw [sm j h0] at e1; injection e1 with e1; subst e1
    exact .inr h0
  refine hS.new k b ?_ e2 h0'
  cases hk : ι0 k with
  | none => rfl
  | some c =>
   have := Zq7 hn h2M hll (old k (by rw [hk]; simp))
   have e3 := Zq7 hn h2M hll e1
   rw [this] at e3
   subst e3
   rw [h1] at hk; cases hk
 ·obtain ⟨k, e1, e2⟩ := gS j b h1
  rw [old j (by rw [h2]; simp)] at e1; injection e1 with e1; subst e1
  exact hS.alive j b e2 h2
 ·obtain ⟨k, e1, e2⟩ := gC j b h1
  rw [old j (by rw [h2]; simp)] at e1; injection e1 with e1; subst e1
  exact hS.kind j b e2 h2
 ·show (sig live M j).bind ι = none
  unfold sig
  rw [if_neg (by omega), if_neg (by omega)]
  rfl
 ·obtain ⟨k, e1, e2⟩ := back j b hj
  refine ⟨k, ?_, e2⟩
  rcases hs with hs | hs
  ·obtain ⟨k2, q1, q2⟩ := gS j b hs
   rw [e1] at q1; injection q1 with q1; subst q1
   exact .inl q2
  ·rw [sm j hs] at e1; injection e1 with e1; subst e1
   exact .inr hs
theorem Z2Q {nt : Nat} {ι0 ι : Ren} {h0 h : AH} {w0 w : World} {T : Tr Value} {a : Act} (hT : TR ι nt [] T a) (hS : Step P ι0 h0 w0 ι h w)
  (live : List Nat) (m M : Nat) (hM : M = 1000000000) (hll : ∀ k ∈ live, k < M) (hlen : live.length = m) (hmM : m ≤ M) (hn : live.Nodup) (h3 : ∀ k, ι0 k ≠ none → live[k]? = some k ∨ ZcP k)
  (L : Nat → Option Value) (hL : ∀ t v, t < nt → L t = some v → v = Za4 (rho live M) 3 ((T.get t).getD undef) ∧ Zap 3 ((T.get t).getD undef) = true)
  (g : AH) (hg : ∀ j o, g j = some o → ∃ k, live[j]? = some k ∧ match o with
   | .ro O m => h k = some (.ro O m)
   | .cells c t q => ∃ c' r, h k = some (.cells c' t q) ∧ c'.map (Za4 (rho live M) 1) = c ++ r ∧ (q = true → r = []) ∧ Z5 (Zap 1) c' = true) :
  ∃ gv, At P nt (tmps nt L gv) g m M ι0 h0 w0 a w := by
 obtain ⟨gv, ι', a1, a2, a3, _⟩ := Zxw hT hS live m M hM hll hlen hmM hn h3 L hL g hg
 exact ⟨gv, ι', a1, a2, a3⟩
theorem Z21 (F : Fit P ext) {fu nt : Nat} {c : Code} {T T' : Tr Value} {s s' : St} {e : Ex} (h : Zbl P ext nt fu c T s = some (e, T', s')) (ho : ∀ p ∈ s'.ob, p.1 = p.2) {ι : Ren} {D : List Deferred} {a : Act} {w : World} (hT : TR ι nt D T a) (he : Emb P ι s.h.get w) (hf : Fresh ι s.n s'.n) :
  c.wp P (Zl6 P ι s w nt D e T' s') a w := (Zpq F fu).1 nt c T s e T' s' h ho ι D a w hT he hf
end
inductive ZD where
 | seq (b : Code)
 | blk (id : Nat)
 | scp
 | rnd (i : Nat)
inductive Stop where
 | fin (v : Value) (s : St)
 | head (a : Code) (K : List ZD) (T : Tr Value) (s : St)
 | next (i : Nat) (T : Tr Value) (s : St)
noncomputable section
def Stop.s : Stop → St
 | .fin _ s => s
 | .head _ _ _ s => s
 | .next _ _ s => s
def Z03 (P : Program) (fn : Func) (T : Tr Value) (s : St) : Option Value :=
 match Zdr P T s fn.results.toList with
 | some [v] => some v
 | some vs => some (.tuple vs.toArray)
 | none => none
def Z04 (s : St) : Option Value → Option Stop
 | some v => some (.fin v s)
 | none => none
def Z22 (P : Program) (fn : Func) (e : Ex) (T : Tr Value) (s : St) : Option Stop :=
 match e with
 | .exit _ => none
 | .normal => Z04 s (Z03 P fn T s)
 | .ret => Z04 s (Z03 P fn T s)
mutual
def ZhD (P : Program) (ext : FuncId → Option Ext) (fn : Func) (nt : Nat) : Nat → Code → List ZD → Tr Value → St → Option Stop
 | 0, _, _, _, _ => none
 | fu + 1, c, K, T, s => match c with
  | .seq a b => ZhD P ext fn nt fu a (.seq b :: K) T s
  | .scope a => ZhD P ext fn nt fu a (.scp :: K) T s
  | .block id a => ZhD P ext fn nt fu a (.blk id :: K) T s
  | .cond x a b => match opnd T x with
   | .bool t => match t with
    | true => ZhD P ext fn nt fu a K T s
    | false => ZhD P ext fn nt fu b K T s
   | _ => none
  | .loop a => some (.head a K T s)
  | c => match Zbl P ext nt fu c T s with
   | some (e, T', s') => Zek P ext fn nt fu K e T' s'
   | none => none
termination_by structural fu _ _ _ _ => fu
def Zek (P : Program) (ext : FuncId → Option Ext) (fn : Func) (nt : Nat) : Nat → List ZD → Ex → Tr Value → St → Option Stop
 | 0, _, _, _, _ => none
 | fu + 1, K, e, T, s => match K with
  | [] => Z22 P fn e T s
  | .seq b :: K => match e with
   | .normal => ZhD P ext fn nt fu b K T s
   | .exit i => Zek P ext fn nt fu K (.exit i) T s
   | .ret => Zek P ext fn nt fu K .ret T s
  | .blk id :: K => match e with
   | .exit i => bif Nat.beq i id then Zek P ext fn nt fu K .normal T s else Zek P ext fn nt fu K (.exit i) T s
   | .normal => Zek P ext fn nt fu K .normal T s
   | .ret => Zek P ext fn nt fu K .ret T s
  | .scp :: K => Zek P ext fn nt fu K e T s
  | .rnd i :: K => match e with
   | .normal => some (.next i T s)
   | .exit j => Zek P ext fn nt fu K (.exit j) T s
   | .ret => Zek P ext fn nt fu K .ret T s
termination_by structural fu _ _ _ _ => fu
end
end
section
variable {P : Program} {ext : FuncId → Option Ext}
theorem ZzM {s : St} {o : Option Value} {st : Stop} (h : Z04 s o = some st) : ∃ v, st = .fin v s ∧ o = some v := by
 cases o with
 | none => cases h
 | some v => injection h with h; exact ⟨v, h.symm, rfl⟩
theorem ZzN {fn : Func} {e : Ex} {T : Tr Value} {s : St} {st : Stop} (h : Z22 P fn e T s = some st) : ∃ v, st = .fin v s ∧ (match e with | .exit _ => False | _ => True) ∧ (match Zdr P T s fn.results.toList with | some [v] => some v | some vs => some (.tuple vs.toArray) | none => none) = some v := by
 cases e with
 | exit i => cases h
 | normal => obtain ⟨v, h1, h2⟩ := ZzM h; exact ⟨v, h1, trivial, h2⟩
 | ret => obtain ⟨v, h1, h2⟩ := ZzM h; exact ⟨v, h1, trivial, h2⟩
theorem up_to (F : Fit P ext) {fn : Func} {nt : Nat} : ∀ fu : Nat, (∀ c K T s st, ZhD P ext fn nt fu c K T s = some st → Up s st.s) ∧ (∀ K e T s st, Zek P ext fn nt fu K e T s = some st → Up s st.s) := by
 intro fu
 induction fu with
 | zero => exact ⟨fun _ _ _ _ _ h => by simp [ZhD] at h, fun _ _ _ _ _ h => by simp [Zek] at h⟩
 | succ fu ih =>
  obtain ⟨ihT, ihB⟩ := ih
  have other : ∀ c K T s st, (match Zbl P ext nt fu c T s with | some (e, T', s') => Zek P ext fn nt fu K e T' s' | none => none) = some st → Up s st.s := fun c K T s st h => by
   split at h
   ·exact ((ZfL (P := P) (ext := ext) (fun f g hg => (F.hp f g hg).up) fu).1 _ _ _ _ _ _ _ (by assumption)).trans (ihB _ _ _ _ _ h)
   ·cases h
  refine ⟨fun c K T s st h => ?_, fun K e T s st h => ?_⟩
  ·cases c <;> simp only [ZhD] at h
   case seq a b => exact ihT _ _ _ _ _ h
   case scope a => exact ihT _ _ _ _ _ h
   case block id a => exact ihT _ _ _ _ _ h
   case cond x a b =>
    split at h
    ·split at h
     ·exact ihT _ _ _ _ _ h
     ·exact ihT _ _ _ _ _ h
    ·cases h
   case loop a => injection h with h; subst h; exact Up.refl _
   all_goals exact other _ _ _ _ _ h
  ·cases K with
   | nil => simp only [Zek] at h; obtain ⟨v, rfl, _⟩ := ZzN h; exact Up.refl _
   | cons k K =>
    cases k <;> simp only [Zek] at h
    ·cases e <;> simp only at h
     ·exact ihT _ _ _ _ _ h
     ·exact ihB _ _ _ _ _ h
     ·exact ihB _ _ _ _ _ h
    ·cases e <;> simp only at h
     ·exact ihB _ _ _ _ _ h
     ·rename_i id i
      cases hb : Nat.beq i id <;> rw [hb] at h <;> exact ihB _ _ _ _ _ h
     ·exact ihB _ _ _ _ _ h
    ·exact ihB _ _ _ _ _ h
    ·cases e <;> simp only at h
     ·injection h with h; subst h; exact Up.refl _
     ·exact ihB _ _ _ _ _ h
     ·exact ihB _ _ _ _ _ h
def post (P : Program) (fn : Func) (R : Ending → World → Prop) (Nx : Nat → Act → World → Prop) : List ZD → Exit → Act → World → Prop
 | [] => bodyPost P fn R
 | .seq b :: K => Exit.then (b.wp P (post P fn R Nx K)) (post P fn R Nx K)
 | .blk id :: K => Exit.inBlock id (post P fn R Nx K)
 | .scp :: K => Exit.noGoto (post P fn R Nx K)
 | .rnd i :: K => Exit.then (Nx i) (post P fn R Nx K)
def ZwB (P : Program) (fn : Func) (R : Ending → World → Prop) (Nx : Nat → Act → World → Prop) (nt : Nat) (ι : Ren) (a : Act) (w : World) : Stop → Prop
 | .fin v _ => ∀ v', VR ι v v' → R (.returned v') w
 | .head b K T _ => TR ι nt [] T a → (Code.loop b).wp P (post P fn R Nx K) a w
 | .next i T _ => TR ι nt [] T a → Nx i a w
theorem Z2i (F : Fit P ext) {fn : Func} {nt : Nat} {R : Ending → World → Prop} {Nx : Nat → Act → World → Prop} : ∀ fu : Nat,
  (∀ c K T s st, ZhD P ext fn nt fu c K T s = some st → (∀ p ∈ st.s.ob, p.1 = p.2) → ∀ ι a w, TR ι nt [] T a → Emb P ι s.h.get w → Fresh ι s.n st.s.n →
   (∀ ι' a' w', Step P ι s.h.get w ι' st.s.h.get w' → Dom ι ι' s.n st.s.n → ZwB P fn R Nx nt ι' a' w' st) → c.wp P (post P fn R Nx K) a w) ∧
  (∀ K e T s st, Zek P ext fn nt fu K e T s = some st → (∀ p ∈ st.s.ob, p.1 = p.2) → ∀ ι a w, TR ι nt [] T a → Emb P ι s.h.get w → Fresh ι s.n st.s.n →
   (∀ ι' a' w', Step P ι s.h.get w ι' st.s.h.get w' → Dom ι ι' s.n st.s.n → ZwB P fn R Nx nt ι' a' w' st) → post P fn R Nx K e.out a w) := by
 intro fu
 induction fu with
 | zero => exact ⟨fun _ _ _ _ _ h => by simp [ZhD] at h, fun _ _ _ _ _ h => by simp [Zek] at h⟩
 | succ fu ih =>
  obtain ⟨ihT, ihB⟩ := ih
  have other : ∀ c K T s st, (match Zbl P ext nt fu c T s with | some (e, T', s') => Zek P ext fn nt fu K e T' s' | none => none) = some st → (∀ p ∈ st.s.ob, p.1 = p.2) → ∀ ι a w, TR ι nt [] T a → Emb P ι s.h.get w → Fresh ι s.n st.s.n →
   (∀ ι' a' w', Step P ι s.h.get w ι' st.s.h.get w' → Dom ι ι' s.n st.s.n → ZwB P fn R Nx nt ι' a' w' st) → c.wp P (post P fn R Nx K) a w := fun c K T s st h ho ι a w hT he hf hQ => by
   split at h
   ·rename_i e T1 s1 h1
    have u1 := (ZfL (P := P) (ext := ext) (fun f g hg => (F.hp f g hg).up) fu).1 _ _ _ _ _ _ _ h1
    have u2 := (up_to F (fn := fn) (nt := nt) fu).2 _ _ _ _ _ h
    refine wp_mono (Z21 F h1 (Zd9 u2.ob ho) hT he (hf.mono (Nat.le_refl _) u2.n)) ?_
    rintro ex a1 w1 ⟨rfl, ι1, g1, g2, g3⟩
    exact ihB K e T1 s1 st h ho ι1 a1 w1 g3 g1.emb (hf.after g2 u1.n) fun ι' a' w' k1 k2 => hQ ι' a' w' (g1.trans k1) (g2.trans k2 u1.n u2.n)
   ·cases h
  refine ⟨fun c K T s st h ho ι a w hT he hf hQ => ?_, fun K e T s st h ho ι a w hT he hf hQ => ?_⟩
  ·have h0 := h
   cases c <;> simp only [ZhD] at h
   case seq x y => exact wp_seq (ihT x (.seq y :: K) T s st h ho ι a w hT he hf hQ)
   case scope x => exact wp_scope_straight (ihT x (.scp :: K) T s st h ho ι a w hT he hf hQ)
   case block id x => exact wp_block (ihT x (.blk id :: K) T s st h ho ι a w hT he hf hQ)
   case cond x y z =>
    split at h
    ·rename_i t ht
     have hx : a.eval x = .bool t := Zkl ((ht ▸ hT.opnd x : VR ι (.bool t) (ZeD a x)).bool_inv)
     split at h
     ·exact wp_cond_true hx (ihT y K T s st h ho ι a w hT he hf hQ)
     ·exact wp_cond_false hx (ihT z K T s st h ho ι a w hT he hf hQ)
    ·cases h
   case loop x =>
    injection h with h
    subst h
    exact hQ ι a w (Step.refl he) Dom.refl hT
   all_goals exact other _ K T s st h ho ι a w hT he hf hQ
  ·cases K with
   | nil =>
    simp only [Zek] at h
    obtain ⟨v, rfl, hne, hr⟩ := ZzN h
    obtain ⟨v', hrun, hv⟩ := Zma hT he hr
    have := hQ ι a w (Step.refl he) Dom.refl v' hv
    cases e with
    | normal => exact ⟨hT.2.1, v', hrun, this⟩
    | ret => exact ⟨hT.2.1, v', hrun, this⟩
    | exit i => exact hne.elim
   | cons k K =>
    cases k with
    | seq b =>
     simp only [Zek] at h
     cases e with
     | normal => exact ihT b K T s st h ho ι a w hT he hf hQ
     | exit i => exact ihB K (.exit i) T s st h ho ι a w hT he hf hQ
     | ret => exact ihB K .ret T s st h ho ι a w hT he hf hQ
    | blk id =>
     simp only [Zek] at h
     cases e with
     | normal => exact ihB K .normal T s st h ho ι a w hT he hf hQ
     | ret => exact ihB K .ret T s st h ho ι a w hT he hf hQ
     | exit i =>
      simp only at h
      show if i = id then _ else _
      cases hb : Nat.beq i id with
      | true =>
       rw [hb] at h
       rw [if_pos (Nat.eq_of_beq_eq_true hb)]
       exact ihB K .normal T s st h ho ι a w hT he hf hQ
      | false =>
       rw [hb] at h
       rw [if_neg (fun e => by rw [ZkF e] at hb; cases hb)]
       exact ihB K (.exit i) T s st h ho ι a w hT he hf hQ
    | scp =>
     simp only [Zek] at h
     have := ihB K e T s st h ho ι a w hT he hf hQ
     cases e <;> exact this
    | rnd i =>
     simp only [Zek] at h
     cases e with
     | normal =>
      injection h with h
      subst h
      exact hQ ι a w (Step.refl he) Dom.refl hT
     | exit j => exact ihB K (.exit j) T s st h ho ι a w hT he hf hQ
     | ret => exact ihB K .ret T s st h ho ι a w hT he hf hQ
def Into (nt m : Nat) (L : Nat → Option Value) (H : Tr AObj) (T : Tr Value) (s : St) (live : List Nat) : Prop :=
 live.length = m ∧ live.Nodup ∧
  (∀ t v, t < nt → L t = some v → v = Za4 (rho live far) 3 ((T.get t).getD undef) ∧ Zap 3 ((T.get t).getD undef) = true) ∧
  ∀ j o, H.get j = some o → ∃ k, live[j]? = some k ∧ match o with
   | .ro O m => s.h.get k = some (.ro O m)
   | .cells c t q => ∃ c' r, s.h.get k = some (.cells c' t q) ∧ c'.map (Za4 (rho live far) 1) = c ++ r ∧ (q = true → r = []) ∧ Z5 (Zap 1) c' = true
def ZcU (n : Nat) (live : List Nat) : Bool := (live.take n == List.range n) && Z5 (fun k => Nat.blt k 1000000000) live
theorem Ztd {n : Nat} {live : List Nat} (h : ZcU n live = true) {k : Nat} (hk : k < n) : live[k]? = some k := by
 unfold ZcU at h
 rw [Bool.and_eq_true] at h
 have h := beq_iff_eq.1 h.1
 have : (live.take n)[k]? = some k := by rw [h]; simp [hk]
 rwa [List.getElem?_take_of_lt hk] at this
theorem ZrQ {n : Nat} {live : List Nat} (h : ZcU n live = true) : ∀ k ∈ live, k < far := fun k hk => by
 unfold ZcU at h
 rw [Bool.and_eq_true] at h
 have := ZaG h.2 k hk
 rw [Nat.blt_eq] at this
 exact this
end
noncomputable section
def Zun (P : Program) (ρ : Operand → Value) (o : Oper) (l : List Oper) : Option (Tmp × Value) :=
  match o.op with
  | .makeInterface _ x => match o.dst with
    | some d => match l with
      | o2 :: _ => match o2.op with
        | .panic y => match y with
          | .tmp d' => match o2.guard with
            | none => bif Nat.beq d' d && free (ρ x) then match ZlX P (execOp (fun _ => ρ x) o) with
              | some (.value (.iface t u)) => some (d, .iface t u)
              | _ => none
              else none
            | _ => none
          | _ => none
        | _ => none
      | [] => none
    | none => none
  | _ => none
def Zim (P : Program) (ext : FuncId → Option Ext) (nt : Nat) (call : FuncId → Array Value → St → Option (Value × St)) (fu : Nat) (ops : Array Oper) : List Oper → Tr Value → St → Option (Value × Tr Value × St)
  | [], _, _ => none
  | o :: l, T, s =>
    bif Zjh nt o.dst && Z5 Zjo o.op.operands.toList then
      match ZgW ops T o s with
      | some (true, s1) => match Zun P (opnd T) o l with
        | some (d, v) => some (v, T.set d (some (.chan (some 0))), s1)
        | none => match Zii P ext fu (opnd T) o s1 with
          | some (v, s') => Zim P ext nt call fu ops l (Zgx T o.dst v) s'
          | none => match Zm8 o with
            | some c => match callee (opnd T) c with
              | some (f, args) => match call f args s1 with
                | some (v, s') => some (v, T, s')
                | none => none
              | none => none
            | none => none
      | some (false, s1) => Zim P ext nt call fu ops l (Zgx T o.dst undef) s1
      | none => none
    else none
def ZbP (P : Program) (ext : FuncId → Option Ext) (nt : Nat) (call : FuncId → Array Value → St → Option (Value × St)) : Nat → Code → Tr Value → St → Option (Value × Tr Value × St)
  | 0, _, _, _ => none
  | fu + 1, c, T, s => match c with
    | .seq a b => match Zbl P ext nt fu a T s with
      | some (.normal, T', s') => ZbP P ext nt call fu b T' s'
      | some _ => none
      | none => ZbP P ext nt call fu a T s
    | .cond x a b => match opnd T x with
      | .bool t => match t with
        | true => ZbP P ext nt call fu a T s
        | false => ZbP P ext nt call fu b T s
      | _ => none
    | .block _ a => ZbP P ext nt call fu a T s
    | .loop a => match Zbl P ext nt fu a T s with
      | some (.normal, T', s') => ZbP P ext nt call fu (.loop a) T' s'
      | some _ => none
      | none => ZbP P ext nt call fu a T s
    | .region _ ops draw => match draw with
      | true => none
      | false => Zim P ext nt call fu ops ops.toList T s
    | _ => none
def Zfl (P : Program) (ext : FuncId → Option Ext) : Nat → FuncId → Array Value → St → Option (Value × St)
  | 0, _, _, _ => none
  | fu + 1, f, args, s => match ext f with
   | some (.tc S) => match s.nextW with
    | (some (.call pre v post dn), s1) => match Zc9 v with
      | true => Znp S args pre v post dn s1
      | false => none
    | _ => none
   | _ => match P.funcs[f]? with
    | some fn => match fn.body with
      | some c => bif Nat.ble args.size fn.ntmps then match ZbP P ext fn.ntmps (Zfl P ext fu) fu c (ZgX 0 args.toList .nil) s with
        | some (v, _, s') => some (v, s')
        | none => none
        else none
      | none => none
    | none => none
end
section
variable {P : Program} {ext : FuncId → Option Ext}
def PostX (P : Program) (ι : Ren) (s : St) (w : World) (v : Value) (s' : St) (e : Ending) (w' : World) : Prop :=
  ∃ ι', e = .panicked (ZgY v) ∧ Step P ι s.h.get w ι' s'.h.get w' ∧ Dom ι ι' s.n s'.n
def Zxx (P : Program) (ι : Ren) (s : St) (w : World) (nt : Nat) (D : List Deferred) (v : Value) (T' : Tr Value) (s' : St) (ex : Exit) (a' : Act) (w' : World) : Prop :=
  ∃ ι', ex = .panic (ZgY v) ∧ Step P ι s.h.get w ι' s'.h.get w' ∧ Dom ι ι' s.n s'.n ∧ TR ι' nt D T' a'
structure Zte (P : Program) (call : FuncId → Array Value → St → Option (Value × St)) : Prop where
  up : ∀ f args s v s', call f args s = some (v, s') → Up s s'
  body : ∀ f args s v s', call f args s = some (v, s') → ∃ (fn : Func) (c : Code), P.funcs[f]? = some fn ∧ fn.body = some c
  does : ∀ f args s v s', call f args s = some (v, s') → (∀ p ∈ s'.ob, p.1 = p.2) → ∀ ι w args', VRs ι args args' → Emb P ι s.h.get w → Fresh ι s.n s'.n → Calls P f args' w (PostX P ι s w v s')
theorem ZyU {ι : Ren} {nt : Nat} {D : List Deferred} {T : Tr Value} {a : Act} {w : World} {ops : Array Oper} {o : Oper} {l : List Oper} {d : Tmp} {v : Value} {Q : Exit → Act → World → Prop} (hT : TR ι nt D T a) (hg : Zjh nt o.dst = true) (hg2 : Z5 Zjo o.op.operands.toList = true) (h : Zun P (opnd T) o l = some (d, v))
    (hQ : TR ι nt D (T.set d (some (.chan (some 0)))) (a.put (some d) v) → Q (.panic (ZgY v)) (a.put (some d) v) w) : o.wp P a w (wpList P ops Q l) Q := by
  unfold Zun at h
  split at h
  · rename_i ty x hop
    split at h
    · rename_i d0 hd
      split at h
      · rename_i o2 l2
        split at h
        · rename_i y hop2
          split at h
          · rename_i d'
            split at h
            · rename_i hgd
              obtain ⟨hc, h⟩ := Zp h
              simp only [Bool.and_eq_true] at hc
              have hdd := Nat.eq_of_beq_eq_true hc.1
              subst hdd
              split at h
              · rename_i t u hp
                injection h with h; injection h with q1 q2; subst q1 q2
                have hx : ZeD a x = opnd T x := (hT.opnd x).eq_of_free hc.2
                have hex : execOp (ZeD a) o = execOp (fun _ => opnd T x) o := by simp only [execOp, hop, hx]
                unfold Oper.wp
                rw [← Zl4 (fun cs b e => by rw [hop] at e; cases e) hg2, hex, ZkH w hp, Oper.upon_value, hd]
                have hT' : TR ι nt D (T.set d' (some (.chan (some 0)))) (a.put (some d') (.iface t u)) := by
                  rw [hd] at hg
                  exact hT.put (dst := some d') hg (.glob rfl)
                unfold wpList
                rw [if_pos (by simp [Region.wanted, hgd])]
                refine .inl ?_
                unfold Oper.wp
                have hlt : d' < a.tmps.size := by
                  rw [hd] at hg
                  rw [hT.1]
                  simpa [Zjh, Nat.blt_eq] using hg
                have hrun : (execOp (a.put (some d') (.iface t u)).eval o2).run P w = .halt (.panic (.iface t u)) w := by
                  simp only [execOp, hop2, Act.eval, Act.put]
                  rw [show (a.tmps.setIfInBounds d' (Value.iface t u)).getD d' undef = .iface t u from by simp [Array.getD, hlt]]
                  rfl
                rw [hrun, Oper.upon_panic]
                exact hQ hT'
              · cases h
            · cases h
          · cases h
        · cases h
      · cases h
    · cases h
  · cases h
theorem Zq8 (F : Fit P ext) {call : FuncId → Array Value → St → Option (Value × St)} (C : Zte P call) {nt fu : Nat} {ops : Array Oper} : ∀ (l : List Oper) (T : Tr Value) (s : St) (v : Value) (T' : Tr Value) (s' : St), Zim P ext nt call fu ops l T s = some (v, T', s') → Up s s'
  | [], T, s, v, T', s', h => by simp [Zim] at h
  | o :: l, T, s, v, T', s', h => by
    simp only [Zim] at h
    replace h := (Zp h).2
    have uP := (ZfL (P := P) (ext := ext) (fun f g hg => (F.hp f g hg).up) fu).2.2.1
    split at h
    · split at h
      · injection h with h; simp only [Prod.mk.injEq] at h; obtain ⟨_, _, rfl⟩ := h; exact ZcK (by assumption)
      · split at h
        · exact (ZcK (by assumption)).trans ((uP _ _ _ _ _ (by assumption)).trans (Zq8 F C l _ _ _ _ _ h))
        · split at h
          · split at h
            · split at h
              · injection h with h; simp only [Prod.mk.injEq] at h; obtain ⟨_, _, rfl⟩ := h
                exact (ZcK (by assumption)).trans (C.up _ _ _ _ _ (by assumption))
              · cases h
            · cases h
          · cases h
    · exact (ZcK (by assumption)).trans (Zq8 F C l _ _ _ _ _ h)
    · cases h
theorem ZkL (F : Fit P ext) {call : FuncId → Array Value → St → Option (Value × St)} (C : Zte P call) {nt : Nat} : ∀ (fu : Nat) (c : Code) (T : Tr Value) (s : St) (v : Value) (T' : Tr Value) (s' : St), ZbP P ext nt call fu c T s = some (v, T', s') → Up s s'
  | 0, _, _, _, _, _, _, h => by simp [ZbP] at h
  | fu + 1, c, T, s, v, T', s', h => by
    have uC := (ZfL (P := P) (ext := ext) (fun f g hg => (F.hp f g hg).up) fu).1
    cases c <;> simp only [ZbP] at h
    case seq a b =>
      split at h
      · exact (uC _ _ _ _ _ _ _ (by assumption)).trans (ZkL F C fu _ _ _ _ _ _ h)
      · cases h
      · exact ZkL F C fu _ _ _ _ _ _ h
    case cond x a b =>
      split at h
      · split at h
        · exact ZkL F C fu _ _ _ _ _ _ h
        · exact ZkL F C fu _ _ _ _ _ _ h
      · cases h
    case block id a => exact ZkL F C fu _ _ _ _ _ _ h
    case loop a =>
      split at h
      · exact (uC _ _ _ _ _ _ _ (by assumption)).trans (ZkL F C fu _ _ _ _ _ _ h)
      · cases h
      · exact ZkL F C fu _ _ _ _ _ _ h
    case region id ops draw =>
      split at h
      · cases h
      · exact Zq8 F C _ _ _ _ _ _ h
    all_goals cases h
theorem Znz (F : Fit P ext) {call : FuncId → Array Value → St → Option (Value × St)} (C : Zte P call) {nt fu : Nat} {ops : Array Oper} : ∀ (l : List Oper) (T : Tr Value) (s : St) (v : Value) (T' : Tr Value) (s' : St), Zim P ext nt call fu ops l T s = some (v, T', s') → (∀ p ∈ s'.ob, p.1 = p.2) →
    ∀ ι D a w (Q : Exit → Act → World → Prop), TR ι nt D T a → Emb P ι s.h.get w → Fresh ι s.n s'.n → (∀ ι' a' w', Step P ι s.h.get w ι' s'.h.get w' → Dom ι ι' s.n s'.n → TR ι' nt D T' a' → Q (.panic (ZgY v)) a' w') → wpList P ops Q l a w
  | [], T, s, v, T', s', h => by simp [Zim] at h
  | o :: l, T, s, v, T', s', h => by
    intro ho ι D a w Q hT he hf hQ
    simp only [Zim] at h
    obtain ⟨hg, h⟩ := Zp h
    simp only [Bool.and_eq_true] at hg
    split at h
    · rename_i s1 hw
      have u1 := ZcK hw
      obtain ⟨hwant, e2, e3⟩ := Zgz (fun t _ => hT.2.2 t) hw
      unfold wpList
      rw [if_pos hwant]
      split at h
      · rename_i d v0 ht
        injection h with h; simp only [Prod.mk.injEq] at h; obtain ⟨rfl, rfl, rfl⟩ := h
        exact .inl (ZyU hT hg.1 hg.2 ht fun hT' => hQ ι _ w (by rw [e2]; exact Step.refl he) (by rw [e3]; exact Dom.refl) (by first | exact hT' | (simp only [Act.put] at hT' ⊢; exact hT')))
      · split at h
        · rename_i v1 s2 hv
          have ua := ZfL (P := P) (ext := ext) (fun f g hg => (F.hp f g hg).up) fu
          have u2 := ua.2.2.1 _ _ _ _ _ hv
          have u3 := Zq8 F C _ _ _ _ _ _ h
          refine .inl ((Zpq F fu).2.2.1 (opnd T) (ZeD a) o s1 v1 s2 hv (Zd9 u3.ob ho) ι w hT.opnd (e2 ▸ he) (e3 ▸ (hf.mono (Nat.le_refl _) u3.n)) a _ _ (Zl4 (ZrO hv) hg.2).symm fun v' w' ι' g1 g2 g3 => ?_)
          rw [e2] at g1
          rw [e3] at g2
          have hle : s.n ≤ s2.n := by rw [← e3]; exact u2.n
          exact Znz F C l (Zgx T o.dst v1) s2 v T' s' h ho ι' D _ w' Q ((hT.on g1.ext).put hg.1 g3) g1.emb (hf.after g2 hle) fun ι2 a2 w2 k1 k2 k3 => hQ ι2 a2 w2 (g1.trans k1) (g2.trans k2 hle u3.n) k3
        · split at h
          · rename_i c hc
            obtain ⟨hop, _⟩ := Zrr hc
            split at h
            · rename_i f args hcal
              split at h
              · rename_i v1 s2 hcall
                injection h with h; simp only [Prod.mk.injEq] at h; obtain ⟨rfl, rfl, rfl⟩ := h
                obtain ⟨args', hrun, hargs⟩ := Zpp (P := P) hT.opnd hop hcal w
                rw [Zl4 (fun cs b e => by rw [hop] at e; cases e) hg.2] at hrun
                obtain ⟨fn, c', hfn, hb⟩ := C.body _ _ _ _ _ hcall
                refine .inl ?_
                unfold Oper.wp
                rw [hrun, Zfj hfn (F.go f fn hfn) hb, Oper.upon_enter]
                refine (C.does _ _ _ _ _ hcall ho ι w args' hargs (e2 ▸ he) (e3 ▸ hf)).mono ?_
                rintro e w2 ⟨ι2, rfl, k1, k2⟩
                exact hQ ι2 _ w2 (e2 ▸ k1) (e3 ▸ k2) (hT.on k1.ext)
              · cases h
            · cases h
          · cases h
    · rename_i s1 hw
      have u1 := ZcK hw
      obtain ⟨hwant, e2, e3⟩ := Zgz (fun t _ => hT.2.2 t) hw
      unfold wpList
      rw [if_neg (by rw [hwant]; simp)]
      exact Znz F C l (Zgx T o.dst undef) s1 v T' s' h ho ι D _ w Q (hT.put hg.1 VR.undef') (e2 ▸ he) (e3 ▸ hf) fun ι2 a2 w2 k1 k2 k3 => hQ ι2 a2 w2 (e2 ▸ k1) (e3 ▸ k2) k3
    · cases h
theorem Z1t (F : Fit P ext) {call : FuncId → Array Value → St → Option (Value × St)} (C : Zte P call) {nt : Nat} : ∀ (fu : Nat),
    (∀ (c : Code) (T : Tr Value) (s : St) (v : Value) (T' : Tr Value) (s' : St), ZbP P ext nt call fu c T s = some (v, T', s') → (∀ p ∈ s'.ob, p.1 = p.2) →
      ∀ ι D a w, TR ι nt D T a → Emb P ι s.h.get w → Fresh ι s.n s'.n → c.wp P (Zxx P ι s w nt D v T' s') a w) ∧
    (∀ (c : Code) (T : Tr Value) (s : St) (v : Value) (T' : Tr Value) (s' : St), ZbP P ext nt call fu (.loop c) T s = some (v, T', s') → (∀ p ∈ s'.ob, p.1 = p.2) →
      ∀ ι D a w, TR ι nt D T a → Emb P ι s.h.get w → Fresh ι s.n s'.n → Code.rounds P c (Zxx P ι s w nt D v T' s') fu a w) := by
  intro fu
  induction fu with
  | zero => exact ⟨fun _ _ _ _ _ _ h => by simp [ZbP] at h, fun _ _ _ _ _ _ h => by simp [ZbP] at h⟩
  | succ fu ih =>
    obtain ⟨ihC, ihL⟩ := ih
    have uC := (ZfL (P := P) (ext := ext) (fun f g hg => (F.hp f g hg).up) fu).1
    have sC := (Zpq F fu).1
    have loops : ∀ (c : Code) (T : Tr Value) (s : St) (v : Value) (T' : Tr Value) (s' : St), ZbP P ext nt call (fu + 1) (.loop c) T s = some (v, T', s') → (∀ p ∈ s'.ob, p.1 = p.2) →
        ∀ ι D a w, TR ι nt D T a → Emb P ι s.h.get w → Fresh ι s.n s'.n → Code.rounds P c (Zxx P ι s w nt D v T' s') (fu + 1) a w := by
      intro x T s v T' s' h ho ι D a w hT he hf
      simp only [ZbP] at h
      rw [rounds_succ]
      split at h
      · rename_i T1 s1 h1
        have u1 := uC _ _ _ _ _ _ _ h1
        have u2 := ZkL F C fu _ _ _ _ _ _ h
        refine wp_mono (sC nt x T s .normal T1 s1 h1 (Zd9 u2.ob ho) ι D a w hT he (hf.mono (Nat.le_refl _) u2.n)) ?_
        rintro ex a1 w1 ⟨rfl, ι1, g1, g2, g3⟩
        refine Zmd ?_ fu a1 w1 (ihL x T1 s1 v T' s' h ho ι1 D a1 w1 g3 g1.emb (hf.after g2 u1.n))
        rintro ex a2 w2 ⟨ι2, rfl, k1, k2, k3⟩
        exact ⟨ι2, rfl, g1.trans k1, g2.trans k2 u1.n u2.n, k3⟩
      · cases h
      · refine wp_mono (ihC x T s v T' s' h ho ι D a w hT he hf) ?_
        rintro ex a1 w1 ⟨ι1, rfl, g⟩
        exact ⟨ι1, rfl, g⟩
    refine ⟨fun c T s v T' s' h ho ι D a w hT he hf => ?_, loops⟩
    have h0 := h
    cases c <;> simp only [ZbP] at h
    case seq x y =>
      split at h
      · rename_i T1 s1 h1
        have u1 := uC _ _ _ _ _ _ _ h1
        have u2 := ZkL F C fu _ _ _ _ _ _ h
        refine wp_seq (wp_mono (sC nt x T s .normal T1 s1 h1 (Zd9 u2.ob ho) ι D a w hT he (hf.mono (Nat.le_refl _) u2.n)) ?_)
        rintro ex a1 w1 ⟨rfl, ι1, g1, g2, g3⟩
        refine wp_mono (ihC y T1 s1 v T' s' h ho ι1 D a1 w1 g3 g1.emb (hf.after g2 u1.n)) ?_
        rintro ex a2 w2 ⟨ι2, rfl, k1, k2, k3⟩
        exact ⟨ι2, rfl, g1.trans k1, g2.trans k2 u1.n u2.n, k3⟩
      · cases h
      · refine wp_seq (wp_mono (ihC x T s v T' s' h ho ι D a w hT he hf) ?_)
        rintro ex a1 w1 ⟨ι1, rfl, g⟩
        exact ⟨ι1, rfl, g⟩
    case cond x y z =>
      split at h
      · rename_i t ht
        have hx : a.eval x = .bool t := Zkl ((ht ▸ hT.opnd x : VR ι (.bool t) (ZeD a x)).bool_inv)
        split at h
        · exact wp_cond_true hx (ihC y T s v T' s' h ho ι D a w hT he hf)
        · exact wp_cond_false hx (ihC z T s v T' s' h ho ι D a w hT he hf)
      · cases h
    case block id x =>
      refine wp_block (wp_mono (ihC x T s v T' s' h ho ι D a w hT he hf) ?_)
      rintro ex a1 w1 ⟨ι1, rfl, g⟩
      exact ⟨ι1, rfl, g⟩
    case loop x => exact wp_loop_rounds (fu + 1) (loops x T s v T' s' h0 ho ι D a w hT he hf)
    case region id ops draw =>
      split at h
      · cases h
      · exact wp_region_list (Znz F C _ T s v T' s' h ho ι D a w _ hT he hf fun ι' a' w' g1 g2 g3 => ⟨ι', rfl, g1, g2, g3⟩)
    all_goals cases h
theorem Z1u {ι : Ren} {v v' : Value} (ht : Zc9 v = true) : ¬ VR ι v v' := by
  intro h
  cases h with
  | atom h =>
    unfold Zc9 at ht
    split at ht
    · simp only [Ev.atom] at h
      simp [h] at ht
    · cases ht
  | _ => simp [Zc9] at ht
theorem Z05 (F : Fit P ext) : ∀ fu : Nat, Zte P (Zfl P ext fu)
  | 0 => ⟨fun _ _ _ _ _ h => by simp [Zfl] at h, fun _ _ _ _ _ h => by simp [Zfl] at h, fun _ _ _ _ _ h => by simp [Zfl] at h⟩
  | fu + 1 => by
    have C := Z05 F fu
    refine ⟨fun f args s v s' h => ?_, fun f args s v s' h => ?_, fun f args s v s' h ho ι w args' ha he hf => ?_⟩
    · simp only [Zfl] at h
      split at h
      · split at h
        · rename_i hw
          split at h
          · exact (ZZ hw).trans (Zxn h)
          · cases h
        · cases h
      · split at h
        · split at h
          · replace h := (Zp h).2
            split at h
            · injection h with h; injection h with q1 q2; subst q1 q2; exact ZkL F C _ _ _ _ _ _ _ (by assumption)
            · cases h
          · cases h
        · cases h
    · simp only [Zfl] at h
      split at h
      · rename_i S hx
        exact (F.tc f S hx).1
      · split at h
        · rename_i fn hfn
          split at h
          · rename_i c hb
            exact ⟨fn, c, hfn, hb⟩
          · cases h
        · cases h
    · simp only [Zfl] at h
      split at h
      · rename_i S hx
        split at h
        · rename_i pre u post dn s1 hw
          obtain ⟨e1, e2, _⟩ := Zad hw
          split at h
          · rename_i ht
            obtain ⟨rfl, h3⟩ := Zrp (F.tc f S hx).2 h ho ha (e1 ▸ he) (e2 ▸ hf)
            refine h3.mono ?_
            rintro e w' (⟨v', ι', rfl, g1, g2, g3⟩ | ⟨_, ι', rfl, g1, g2⟩)
            · exact absurd g3 (Z1u ht)
            · exact ⟨ι', rfl, e1 ▸ g1, e2 ▸ g2⟩
          · cases h
        · cases h
      · split at h
        · rename_i fn hfn
          split at h
          · rename_i c hb
            obtain ⟨hsz, h⟩ := Zp h
            have hle : args.size ≤ fn.ntmps := Nat.le_of_ble_eq_true hsz
            split at h
            · rename_i v1 T1 s1 h1
              injection h with h; injection h with q1 q2; subst q1 q2
              refine calls_of_wp hfn hb (wp_mono ((Z1t F C fu).1 c _ s _ T1 _ h1 ho ι [] _ w (Zq6 ha hle) he hf) ?_)
              rintro ex a1 w1 ⟨ι1, rfl, g1, g2, g3⟩
              exact ⟨g3.2.1, ι1, rfl, g1, g2⟩
            · cases h
          · cases h
        · cases h
end
end Ev
end Go.Proofs.YthfohmhipifiaaaGreat
