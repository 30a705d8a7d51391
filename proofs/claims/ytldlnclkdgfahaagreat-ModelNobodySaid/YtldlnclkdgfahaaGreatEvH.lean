/- The runner against the model: code and calls. -/
import Derived.Test.YtldlnclkdgfahaaGreatEvG
namespace Go.Proofs.YtldlnclkdgfahaaGreat
open Go.RowKit
namespace Ev

def PostV (P : Program) (ι : Ren) (s : St) (w : World) (v : Value) (s' : St) (e : Ending) (w' : World) : Prop :=
  ∃ v' ι', e = .returned v' ∧ Step P ι s.h.get w ι' s'.h.get w' ∧ Dom ι ι' s.n s'.n ∧ VR ι' v v'
/-- A call does what g says of it. -/
structure Does (P : Program) (f : FuncId) (g : Array Value → St → Out) : Prop where
  body : ∃ (fn : Func) (c : Code), P.funcs[f]? = some fn ∧ fn.body = some c
  up : ∀ args s v s', g args s = some (v, s') → Up s s'
  does : ∀ args s v s', g args s = some (v, s') → (∀ p ∈ s'.ob, p.1 = p.2) → ∀ ι w args', VRs ι args args' → Emb P ι s.h.get w → Fresh ι s.n s'.n → Calls P f args' w (PostV P ι s w v s')
/-- What is to be known of a call that is told. -/
def CallSpec (P : Program) (f : FuncId) (args : Array Value) (pre : List (Nat × AObj)) (v : Value) (post : List (Nat × Option AObj)) (n dn : Nat) : Prop :=
  ∀ ι w args', VRs ι args args' → Emb P ι (fun k => look k pre) w → Fresh ι n (n + dn) → Calls P f args' w fun e w' => ∃ v' ι', e = .returned v' ∧ Step P ι (fun k => look k pre) w ι' (behind pre post) w' ∧ Dom ι ι' n (n + dn) ∧ VR ι' v v'
/-- What is asked of the program besides. -/
structure Fit (P : Program) (ext : FuncId → Option Ext) : Prop where
  mixed : P.follows .mixedOrders = true
  go : ∀ (f : Nat) (fn : Func), P.funcs[f]? = some fn → (fn.name == "runtime.NumGoroutine") = false
  fn : ∀ (f : Nat) (g : List Value → Option Value), ext f = some (.fn g) → (∃ (fn : Func) (c : Code), P.funcs[f]? = some fn ∧ fn.body = some c) ∧ ∀ (args : Array Value) (v : Value), allB free args.toList = true → g args.toList = some v → ∀ w, Calls P f args w fun e w' => e = .returned v ∧ Below w.heap.size w w'
  hp : ∀ (f : Nat) (g : Array Value → St → Out), ext f = some (.hp g) → Does P f g
  tc : ∀ (f : Nat) (S : Array Value → List (Nat × AObj) → Value → List (Nat × Option AObj) → Nat → Nat → Prop), ext f = some (.tc S) → (∃ (fn : Func) (c : Code), P.funcs[f]? = some fn ∧ fn.body = some c) ∧ ∀ args pre v post n dn, S args pre v post n dn → CallSpec P f args pre v post n dn
  mark : ∀ (f : Nat) (n : Nat), ext f = some (.mark n) → ∃ fn : Func, P.funcs[f]? = some fn ∧ fn.body.isNone = true ∧ Extern.findNext fn = none ∧
    (n = 0 ∧ (∃ m : Mark, Extern.find fn = some (fun _ => do mark m; pure Extern.Race.none_)) ∨ n = 1 ∧ ∃ m : Addr → Mark, Extern.find fn = some (Extern.Race.marked m))
  ext : ∀ (f : Nat) (kk : IntKind) (e : Nat), ext f = some (.at kk e) → ∃ fn : Func, P.funcs[f]? = some fn ∧ fn.body.isNone = true ∧ Extern.findNext fn = none ∧
    (e = 0 ∧ Extern.find fn = some (Extern.Atomic.loadT (.int kk)) ∨ e = 1 ∧ Extern.find fn = some Extern.Atomic.storeT ∨
     e = 2 ∧ Extern.find fn = some (Extern.Atomic.update (Op.intArith .add) kk true) ∨ e = 3 ∧ Extern.find fn = some (Extern.Atomic.casT (.int kk)))
section
variable {P : Program} {ext : FuncId → Option Ext}

theorem up_fn {g : List Value → Option Value} {args : Array Value} {s s' : St} {v : Value} (h : evFn g args s = some (v, s')) : Up s s' := by
  unfold evFn at h
  replace h := (bif_some h).2
  split at h
  · replace h := (bif_some h).2
    injection h with h; injection h with h1 h2; subst h1 h2; exact Up.refl _
  · cases h
theorem bif_none {α : Type} {b : Bool} {x : Option α} {y : α} (h : (bif b then none else x) = some y) : b = false ∧ x = some y := by
  cases b with
  | true => simp at h
  | false => exact ⟨rfl, by simpa using h⟩
theorem up_wanted {ops : Array Oper} {T : Tr Value} {o : Oper} {s s' : St} {b : Bool} (h : wantedT ops T o s = some (b, s')) : Up s s' := by
  unfold wantedT at h
  split at h
  · injection h with h; injection h with h1 h2; subst h1 h2; exact Up.refl _
  · split at h
    · split at h
      · injection h with h; injection h with h1 h2; subst h1 h2; exact Up.refl _
      · injection h with h; injection h with h1 h2; subst h1 h2; exact Up.refl _
      · cases h
    · cases h
theorem get_pickK {h : Tr AObj} (k : Nat) : ∀ (t : List Nat), (pickK h t).get k = if k ∈ t then h.get k else none
  | [] => by simp [pickK, Tr.get_nil]
  | j :: t => by
    rw [pickK, Tr.get_set]
    by_cases hk : k = j
    · subst hk; rw [upd_same]; simp
    · rw [upd_other hk, get_pickK k t]
      simp [hk]
theorem get_backK {r h : Tr AObj} (k : Nat) : ∀ (t : List Nat), (backK r t h).get k = if k ∈ t then r.get k else h.get k
  | [] => by simp [backK]
  | j :: t => by
    rw [backK, Tr.get_set]
    by_cases hk : k = j
    · subst hk; rw [upd_same]; simp
    · rw [upd_other hk, get_backK k t]
      simp [hk]
section
variable {P : Program}
/-! ### What is elsewhere stays -/
noncomputable def join (h x : AH) : AH := fun k => match h k with | some o => some o | none => x k
theorem join_some {h x : AH} {k : Nat} (hk : (h k).isSome) : join h x k = h k := by
  unfold join
  cases he : h k with
  | none => rw [he] at hk; cases hk
  | some o => rfl
theorem join_none {h x : AH} {k : Nat} (hk : h k = none) : join h x k = x k := by unfold join; rw [hk]
theorem Emb.sub {ι : Ren} {h g : AH} {w : World} (e : Emb P ι g w) (hs : ∀ k o, h k = some o → g k = some o) : Emb P ι h w := by
  have iso : ∀ k, (h k).isSome → (g k).isSome := fun k hk => by
    cases he : h k with
    | none => rw [he] at hk; cases hk
    | some o => rw [hs k o he]; rfl
  have isoC : ∀ k, isC (h k) = true → isC (g k) = true := fun k hk => by
    cases he : h k with
    | none => rw [he] at hk; cases hk
    | some o => rw [hs k o he, ← he]; exact hk
  exact ⟨fun k c t hk => e.obj k c t (hs k _ hk), fun k O hk => e.ro k O (hs k _ hk), fun k k' b b' h1 h2 => e.inj k k' b b' (isoC k h1) (iso k' h2), e.lt⟩
theorem Step.framed {ι ι' : Ren} {h h' x : AH} {w w' : World} (st : Step P ι h w ι' h' w') (e : Emb P ι (join h x) w) (hx : ∀ k, (x k).isSome → h k = none) :
    Step P ι (join h x) w ι' (join h' x) w' := by
  have hl : ∀ k, (h k).isSome → (join h x k).isSome := fun k hk => by rw [join_some hk]; exact hk
  have hlC : ∀ k, isC (h k) = true → isC (join h x k) = true := fun k hk => by rw [join_some (isC_some hk)]; exact hk
  have xlC : ∀ k, isC (x k) = true → isC (join h x k) = true := fun k hk => by rw [join_none (hx k (isC_some hk))]; exact hk
  have xl : ∀ k, (x k).isSome → (join h x k).isSome := fun k hk => by rw [join_none (hx k hk)]; exact hk
  have parts : ∀ k, (join h' x k).isSome → (h' k).isSome ∨ (h' k = none ∧ (x k).isSome) := fun k hk => by
    cases he : h' k with
    | some o => exact .inl rfl
    | none => rw [join_none he] at hk; exact .inr ⟨rfl, hk⟩
  have partsC : ∀ k, isC (join h' x k) = true → isC (h' k) = true ∨ (h' k = none ∧ isC (x k) = true) := fun k hk => by
    cases he : h' k with
    | some o => rw [join_some (by rw [he]; rfl), he] at hk; exact .inl hk
    | none => rw [join_none he] at hk; exact .inr ⟨rfl, hk⟩
  have xι : ∀ k, (x k).isSome → ∃ b, ι k = some b ∧ ι' k = some b := fun k hk => by
    obtain ⟨b, hb⟩ := e.live (xl k hk)
    exact ⟨b, hb, st.ext k b hb⟩
  refine ⟨st.ext, ⟨fun k c t hk => ?_, fun k O hk => ?_, fun k k' b b' h1 h2 h3 h4 h5 => ?_, st.emb.lt⟩, st.os, st.tape, st.output, st.size, fun b hb hno => st.frame b hb fun k c hk => hno k c (hlC k hk), fun k b h1 h2 => ?_, fun k h1 h2 => ?_, fun k h1 h2 => ?_⟩
  · rcases parts k (by rw [hk]; rfl) with h1 | ⟨h1, h2⟩
    · rw [join_some h1] at hk
      exact st.emb.obj k c t hk
    · rw [join_none h1] at hk
      obtain ⟨b, C, hb, hB, hC, hQ⟩ := e.obj k c t (by rw [join_none (hx k h2)]; exact hk)
      refine ⟨b, C, st.ext k b hb, ?_, hC.ext st.ext, hQ⟩
      rw [st.frame b.1 (e.lt k b hb)]
      · exact hB
      · intro j d hj hd he
        have : j = k := e.inj j k d b (hlC j hj) (xl k h2) hd hb he
        subst this
        rw [hx j h2] at hj
        cases hj
  · rcases parts k (by rw [hk]; rfl) with h1 | ⟨h1, h2⟩
    · rw [join_some h1] at hk
      exact st.emb.ro k O hk
    · rw [join_none h1] at hk
      obtain ⟨b, hb, hB⟩ := e.ro k O (by rw [join_none (hx k h2)]; exact hk)
      refine ⟨b, st.ext k b hb, ?_⟩
      rw [st.frame b.1 (e.lt k b hb)]
      · exact hB
      · intro j d hj hd he
        have : j = k := e.inj j k d b (hlC j hj) (xl k h2) hd hb he
        subst this
        rw [hx j h2] at hj
        cases hj
  · -- one of h', one of x
    have mixed : ∀ {k k' : Nat} {b b' : Nat × Nat}, (h' k).isSome → (x k').isSome → (isC (h' k) = true ∨ isC (x k') = true) → ι' k = some b → ι' k' = some b' → b.1 = b'.1 → k = k' := fun {k k' b b'} h1 h2 hor h3 h4 h5 => by
      obtain ⟨c, hc, hc'⟩ := xι k' h2
      rw [h4] at hc'; injection hc' with hc'; subst hc'
      cases hk : ι k with
      | some d =>
        have e1 := st.ext k d hk
        rw [h3] at e1; injection e1 with e1; subst e1
        rcases hor with hC | hC
        · exact e.inj k k' b b' (hlC k (st.kind k hC (by rw [hk]; simp))) (xl k' h2) hk hc h5
        · exact (e.inj k' k b' b (xlC k' hC) (hl k (st.alive k h1 (by rw [hk]; simp))) hc hk h5.symm).symm
      | none =>
        rcases st.new k b hk h3 with h6 | ⟨j, d, hj, hd, he⟩
        · have := e.lt k' b' hc
          omega
        · have : j = k' := e.inj j k' d b' (hlC j hj) (xl k' h2) hd hc (he.trans h5)
          subst this
          rw [hx j h2] at hj
          cases hj
    rcases partsC k h1 with q1 | ⟨_, q1⟩ <;> rcases parts k' h2 with q2 | ⟨_, q2⟩
    · exact st.emb.inj k k' b b' q1 q2 h3 h4 h5
    · exact mixed (isC_some q1) q2 (.inl q1) h3 h4 h5
    · exact (mixed q2 (isC_some q1) (.inr q1) h4 h3 h5.symm).symm
    · obtain ⟨c, hc, hc'⟩ := xι k (isC_some q1)
      obtain ⟨d, hd, hd'⟩ := xι k' q2
      rw [h3] at hc'; injection hc' with hc'; subst hc'
      rw [h4] at hd'; injection hd' with hd'; subst hd'
      exact e.inj k k' b b' (xlC k q1) (xl k' q2) hc hd h5
  · rcases st.new k b h1 h2 with h3 | ⟨j, c, hj, hc⟩
    · exact .inl h3
    · exact .inr ⟨j, c, hlC j hj, hc⟩
  · rcases parts k h1 with q1 | ⟨_, q1⟩
    · exact hl k (st.alive k q1 h2)
    · exact xl k q1
  · rcases partsC k h1 with q1 | ⟨_, q1⟩
    · exact hlC k (st.kind k q1 h2)
    · exact xlC k q1

end
theorem get_putsT (h : Tr AObj) : ∀ (l : List (Nat × Option AObj)) (k : Nat), (putsT h l).get k = match look k l with | some o => o | none => h.get k
  | [], k => rfl
  | x :: l, k => by
    show ((putsT h l).set x.1 x.2).get k = _
    rw [Tr.get_set]
    unfold look
    by_cases hk : k = x.1
    · subst hk
      rw [upd_same, Nat.beq_refl]
      rfl
    · rw [upd_other hk, get_putsT h l k, beqF (fun e => hk e.symm)]
      rfl
theorem look_mem {α : Type} {k : Nat} {o : α} : ∀ {l : List (Nat × α)}, look k l = some o → (k, o) ∈ l
  | [], h => by cases h
  | x :: l, h => by
    unfold look at h
    cases hb : Nat.beq x.1 k with
    | true =>
      rw [hb] at h
      injection h with h
      have := Nat.eq_of_beq_eq_true hb
      obtain ⟨a, b⟩ := x
      subst this h
      exact List.mem_cons_self
    | false =>
      rw [hb] at h
      exact List.mem_cons_of_mem _ (look_mem h)
theorem look_of_mem {α : Type} {k : Nat} : ∀ {l : List (Nat × α)}, k ∈ l.map (·.1) → (look k l).isSome
  | [], h => by cases h
  | x :: l, h => by
    unfold look
    cases hb : Nat.beq x.1 k with
    | true => rfl
    | false =>
      simp only [List.map_cons, List.mem_cons] at h
      rcases h with h | h
      · subst h; rw [Nat.beq_refl] at hb; cases hb
      · exact look_of_mem h
theorem keysOk_spec {pre : List (Nat × AObj)} {n n' : Nat} : ∀ {post : List (Nat × Option AObj)}, keysOk pre n n' post = true → ∀ k o, look k post = some o → (look k pre).isSome ∨ (o.isSome ∧ n ≤ k ∧ k < n')
  | [], _, k, o, h => by cases h
  | x :: l, hk, k, o, h => by
    simp only [keysOk, Bool.and_eq_true, Bool.or_eq_true] at hk
    unfold look at h
    cases hb : Nat.beq x.1 k with
    | true =>
      rw [hb] at h
      injection h with h
      have := Nat.eq_of_beq_eq_true hb
      subst this h
      rcases hk.1 with h1 | ⟨h0, h1, h2⟩
      · exact .inl h1
      · exact .inr ⟨h0, Nat.le_of_ble_eq_true h1, Nat.le_of_ble_eq_true h2⟩
    | false => rw [hb] at h; exact keysOk_spec hk.2 k o h
theorem suffix_tellPre {s : St} : ∀ (l : List (Nat × AObj)), s.ob <:+ tellPre s l
  | [] => List.suffix_refl _
  | x :: l => (suffix_tellPre l).trans (List.suffix_cons _ _)
theorem mem_tellPre {s : St} : ∀ {l : List (Nat × AObj)} {x : Nat × AObj}, x ∈ l → (AObj.sameAs (s.h.get x.1) x.2, true) ∈ tellPre s l
  | y :: l, x, h => by
    rcases List.mem_cons.1 h with rfl | h
    · exact List.mem_cons_self
    · exact List.mem_cons_of_mem _ (mem_tellPre h)
theorem sameAs_spec {o : Option AObj} {p : AObj} (h : AObj.sameAs o p = true) : o = some p := by
  unfold AObj.sameAs at h
  split at h
  · rename_i c t c' t'
    cases hb : Nat.beq t t' with
    | true =>
      rw [hb] at h
      rw [Nat.eq_of_beq_eq_true hb, dP_iff.1 h]
    | false => rw [hb] at h; cases h
  · rw [dP_iff.1 h]
  · rw [dP_iff.1 h]
  · cases h
theorem up_evTC {S : Array Value → List (Nat × AObj) → Value → List (Nat × Option AObj) → Nat → Nat → Prop} {args : Array Value} {pre : List (Nat × AObj)} {u v : Value} {post : List (Nat × Option AObj)} {dn : Nat} {s s' : St} (h : evTC S args pre u post dn s = some (v, s')) : Up s s' := by
  unfold evTC at h
  replace h := (bif_some h).2
  injection h with h
  injection h with h1 h2
  subst h1 h2
  refine ⟨Nat.le_add_right _ _, (suffix_tellPre pre).trans (List.suffix_cons _ _), _, rfl, fun k hk _ => ?_⟩
  show (putsT s.h post).get k = _
  rw [get_putsT]
  cases hl : look k post with
  | none => rfl
  | some o => exact absurd (List.mem_map.2 ⟨_, look_mem hl, rfl⟩) hk
/-- A told call. -/
theorem evTC_sound {P : Program} {f : FuncId} {S : Array Value → List (Nat × AObj) → Value → List (Nat × Option AObj) → Nat → Nat → Prop} (hS : ∀ args pre v post n dn, S args pre v post n dn → CallSpec P f args pre v post n dn) {args args' : Array Value} {pre : List (Nat × AObj)} {u v : Value} {post : List (Nat × Option AObj)} {dn : Nat} {s s' : St} (h : evTC S args pre u post dn s = some (v, s')) (ho : ∀ p ∈ s'.ob, p.1 = p.2)
    {ι : Ren} {w : World} (ha : VRs ι args args') (he : Emb P ι s.h.get w) (hf : Fresh ι s.n s'.n) : Calls P f args' w (PostV P ι s w v s') := by
  unfold evTC at h
  obtain ⟨hg, h⟩ := bif_some h
  simp only [Bool.and_eq_true] at hg
  injection h with h
  injection h with h1 h2
  subst h1 h2
  have hc := hS _ _ _ _ _ _ (dP_iff.1 (ho _ List.mem_cons_self))
  have hpre : ∀ k o, look k pre = some o → s.h.get k = some o := fun k o hk => sameAs_spec (ho (AObj.sameAs (s.h.get k) o, true) (List.mem_cons_of_mem _ (mem_tellPre (x := (k, o)) (look_mem hk))))
  let x : AH := fun k => if (look k pre).isSome then none else s.h.get k
  have hx : ∀ k, (x k).isSome → (fun k => look k pre) k = none := fun k hk => by
    show look k pre = none
    cases hl : look k pre with
    | none => rfl
    | some o => simp [x, hl] at hk
  have e1 : join (fun k => look k pre) x = s.h.get := funext fun k => by
    cases hl : look k pre with
    | none => rw [join_none hl]; simp [x, hl]
    | some o => rw [join_some (h := fun k => look k pre) (by simp [hl])]; simp only [hl]; exact (hpre k o hl).symm
  have e2 : join (behind pre post) x = (putsT s.h post).get := funext fun k => by
    rw [get_putsT]
    cases hl : look k post with
    | some o =>
      cases o with
      | some o =>
        have hb : behind pre post k = some o := by unfold behind; rw [hl]
        rw [join_some (by rw [hb]; rfl), hb]
      | none =>
        have hb : behind pre post k = none := by unfold behind; rw [hl]
        rw [join_none hb]
        rcases keysOk_spec hg.1 k none hl with h1 | ⟨h1, _⟩
        · simp [x, h1]
        · cases h1
    | none =>
      have hb : behind pre post k = look k pre := by unfold behind; rw [hl]
      cases hp : look k pre with
      | none => rw [join_none (by rw [hb, hp])]; simp [x, hp]
      | some o => rw [join_some (by rw [hb, hp]; rfl), hb, hp]; exact (hpre k o hp).symm
  refine (hc ι w args' ha (he.sub fun k o hk => hpre k o hk) hf).mono ?_
  rintro e w' ⟨v', ι', rfl, g1, g2, g3⟩
  have := g1.framed (x := x) (by rw [e1]; exact he) hx
  rw [e1, e2] at this
  exact ⟨v', ι', rfl, this, g2, g3⟩
theorem up_all (hup : ∀ (f : Nat) (g : Array Value → St → Out), ext f = some (.hp g) → ∀ args s v s', g args s = some (v, s') → Up s s') : ∀ fu : Nat, (∀ nt c T s e T' s', evCode P ext nt fu c T s = some (e, T', s') → Up s s') ∧ (∀ nt ops l T s T' s', evOps P ext nt fu ops l T s = some (T', s') → Up s s') ∧
    (∀ ρ o s v s', evOp P ext fu ρ o s = some (v, s') → Up s s') ∧ (∀ f args s v s', evCall P ext fu f args s = some (v, s') → Up s s') ∧ (∀ nt ops done l T s es T' s', evDraw P ext nt fu ops done l T s = some (es, T', s') → Up s s') ∧ (∀ ρ o s v s' r, evOne P ext fu ρ o s = some (v, s', r) → Up s s') := by
  intro fu
  induction fu with
  | zero => exact ⟨fun _ _ _ _ _ _ _ h => by simp [evCode] at h, fun _ _ _ _ _ _ _ h => by simp [evOps, St.keep_eq] at h, fun _ _ _ _ _ h => by simp [evOp] at h, fun _ _ _ _ _ h => by simp [evCall] at h, fun _ _ _ _ _ _ _ _ _ h => by simp [evDraw, St.keep_eq] at h, fun _ _ _ _ _ _ h => by simp [evOne] at h⟩
  | succ fu ih =>
    obtain ⟨ihC, ihO, ihP, ihF, ihD, ihE⟩ := ih
    refine ⟨fun nt c T s e T' s' h => ?_, fun nt ops l T s T' s' h => ?_, fun ρ o s v s' h => ?_, fun f args s v s' h => ?_, fun nt ops done l T s es T' s' h => ?_, fun ρ o s v s' r h => ?_⟩
    · cases c <;> simp only [evCode] at h
      case skip => injection h with h; simp only [Prod.mk.injEq] at h; obtain ⟨_, _, rfl⟩ := h; exact Up.refl _
      case label l => injection h with h; simp only [Prod.mk.injEq] at h; obtain ⟨_, _, rfl⟩ := h; exact Up.refl _
      case scope c => exact ihC _ _ _ _ _ _ _ h
      case ret => injection h with h; simp only [Prod.mk.injEq] at h; obtain ⟨_, _, rfl⟩ := h; exact Up.refl _
      case exit id => injection h with h; simp only [Prod.mk.injEq] at h; obtain ⟨_, _, rfl⟩ := h; exact Up.refl _
      case seq a b =>
        split at h
        · exact (ihC _ _ _ _ _ _ _ (by assumption)).trans (ihC _ _ _ _ _ _ _ h)
        · injection h with h; simp only [Prod.mk.injEq] at h; obtain ⟨_, _, rfl⟩ := h; exact ihC _ _ _ _ _ _ _ (by assumption)
        · injection h with h; simp only [Prod.mk.injEq] at h; obtain ⟨_, _, rfl⟩ := h; exact ihC _ _ _ _ _ _ _ (by assumption)
        · cases h
      case cond x a b =>
        split at h
        · split at h
          · exact ihC _ _ _ _ _ _ _ h
          · exact ihC _ _ _ _ _ _ _ h
        · cases h
      case block id a =>
        split at h
        · rename_i i T1 s1 h1
          cases hb : Nat.beq i id <;> rw [hb] at h <;> (injection h with h; simp only [Prod.mk.injEq] at h; obtain ⟨_, _, rfl⟩ := h; exact ihC _ _ _ _ _ _ _ (by assumption))
        · injection h with h; simp only [Prod.mk.injEq] at h; obtain ⟨_, _, rfl⟩ := h; exact ihC _ _ _ _ _ _ _ (by assumption)
        · injection h with h; simp only [Prod.mk.injEq] at h; obtain ⟨_, _, rfl⟩ := h; exact ihC _ _ _ _ _ _ _ (by assumption)
        · cases h
      case loop a =>
        split at h
        · exact (ihC _ _ _ _ _ _ _ (by assumption)).trans (ihC _ _ _ _ _ _ _ h)
        · injection h with h; simp only [Prod.mk.injEq] at h; obtain ⟨_, _, rfl⟩ := h; exact ihC _ _ _ _ _ _ _ (by assumption)
        · injection h with h; simp only [Prod.mk.injEq] at h; obtain ⟨_, _, rfl⟩ := h; exact ihC _ _ _ _ _ _ _ (by assumption)
        · cases h
      case region id ops draw =>
        cases draw with
        | true =>
          simp only [cond_true] at h
          split at h
          · injection h with h; simp only [Prod.mk.injEq] at h; obtain ⟨_, _, rfl⟩ := h; exact ihD _ _ _ _ _ _ _ _ _ (by assumption)
          · cases h
        | false =>
          simp only [cond_false] at h
          split at h
          · injection h with h; simp only [Prod.mk.injEq] at h; obtain ⟨_, _, rfl⟩ := h; exact ihO _ _ _ _ _ _ _ (by assumption)
          · cases h
      all_goals cases h
    · cases l with
      | nil => simp only [evOps, St.keep_eq] at h; injection h with h; simp only [Prod.mk.injEq] at h; obtain ⟨_, rfl⟩ := h; exact Up.refl _
      | cons o l =>
        simp only [evOps, St.keep_eq] at h
        replace h := (bif_some h).2
        split at h
        · split at h
          · exact (up_wanted (by assumption)).trans ((ihP _ _ _ _ _ (by assumption)).trans (ihO _ _ _ _ _ _ _ h))
          · cases h
        · exact (up_wanted (by assumption)).trans (ihO _ _ _ _ _ _ _ h)
        · cases h
    · simp only [evOp] at h
      split at h
      · split at h
        · split at h
          · split at h
            · exact (up_nextW (by assumption)).trans (up_atomicT h)
            · cases h
            · exact (up_nextW (by assumption)).trans (up_atomic h)
          · exact up_mark h
          · exact hup _ _ (by assumption) _ _ _ _ h
          · split at h
            · exact (up_nextW (by assumption)).trans (up_evTC h)
            · cases h
          · exact up_fn h
          · exact ihF _ _ _ _ _ h
        · cases h
      · split at h
        · rename_i v1 s1 h1
          injection h with h
          exact (up_ev1 h1).trans (up_fixB h)
        · cases h
    · simp only [evCall] at h
      split at h
      · split at h
        · replace h := (bif_some h).2
          split at h
          · cases h
          · split at h
            · injection h with h; simp only [Prod.mk.injEq] at h; obtain ⟨_, rfl⟩ := h; exact ihC _ _ _ _ _ _ _ (by assumption)
            · injection h with h; simp only [Prod.mk.injEq] at h; obtain ⟨_, rfl⟩ := h; exact ihC _ _ _ _ _ _ _ (by assumption)
            · cases h
          · cases h
        · cases h
      · cases h
    · cases l with
      | nil => simp only [evDraw, St.keep_eq] at h; injection h with h; simp only [Prod.mk.injEq] at h; obtain ⟨_, _, rfl⟩ := h; exact Up.refl _
      | cons o l =>
        simp only [evDraw, St.keep_eq] at h
        replace h := (bif_some h).2
        split at h
        · split at h
          · replace h := (bif_some h).2
            exact (up_wanted (by assumption)).trans ((ihE _ _ _ _ _ _ (by assumption)).trans (ihD _ _ _ _ _ _ _ _ _ h))
          · cases h
        · replace h := (bif_some h).2
          exact (up_wanted (by assumption)).trans (ihD _ _ _ _ _ _ _ _ _ h)
        · cases h
    · simp only [evOne] at h
      split at h
      · split at h
        · rename_i v1 s1 h1
          replace h := (bif_some h).2
          injection h with h; simp only [Prod.mk.injEq] at h; obtain ⟨_, rfl, _⟩ := h
          have u := ihP _ _ _ _ _ h1
          obtain ⟨l, e1, e2⟩ := u.log
          simp only [List.append_nil] at e1
          exact ⟨u.n, u.ob, l, by rw [e1], e2⟩
        · cases h
      · replace h := (bif_some h).2
        generalize (touches s ρ o).1 = w at h
        generalize (touches s ρ o).2 = t at h
        generalize readsOf ρ o = q at h
        split at h
        · rename_i v1 s1 h1
          obtain ⟨hg, h⟩ := bif_some h
          injection h with h; simp only [Prod.mk.injEq] at h; obtain ⟨_, rfl, _⟩ := h
          have u := ihP _ _ _ _ _ h1
          obtain ⟨l, e1, e2⟩ := u.log
          simp only [List.append_nil] at e1
          refine ⟨u.n, u.ob, l, by rw [e1], fun k hk hn => ?_⟩
          show (Tr.set _ _ _).get k = _
          rw [Tr.get_set]
          by_cases hkn : k = s.n
          · subst hkn
            rw [upd_same]
            have hn' : ¬ s.n < s1.n := fun e => hn ⟨Nat.le_refl _, e⟩
            have : s1.n = s.n := by have := u.n; simp only at this; omega
            rw [beqT this]
            rfl
          · rw [upd_other hkn]
            cases w with
            | false => rfl
            | true =>
              simp only [cond_true]
              rw [get_backK]
              split
              · rename_i hm
                rw [e2 k hk hn, get_pickK, if_pos (List.mem_append_left _ hm)]
              · rfl
        · cases h
end
end Ev
end Go.Proofs.YtldlnclkdgfahaaGreat
