/- Part 3. -/
import Derived.Test.YtgpekgedjmhmeaaGreatZab
/- Ranges over functions: the iterator, the statement. -/
namespace Go.Proofs.YtgpekgedjmhmeaaGreat
open Go.RowKit
namespace Ev
section
variable {P : Program} {ext : FuncId → Option Ext}
section
variable {ι0 : Ren} {h0 : AH} {w0 : World} {n0 : Nat} {ac : Act} {l0 K : Nat} {R : Loop} {cx : Cx}
def Zva (P : Program) (ι0 : Ren) (h0 : AH) (w0 : World) (n0 : Nat) (cx : Cx) (ac : Act) (l0 K : Nat) (R : Loop) (nt : Nat) (ι : Ren) (s : St) (e : Ex) (T' : Tr Value) (s' : St) (ys' : List Tmp) (pe' : Option Ex) (ex : Exit) (a' : Act) (W' : World) : Prop :=
 ex = e.out ∧ ∃ ι', TR ι' nt [] T' a' ∧ YS l0 ys' a' ∧ IS P ι0 h0 w0 n0 cx.nt cx.T ac l0 K (Rp R pe') ι' s' W' ∧ Dom ι ι' s.n s'.n
theorem Z0d (F : Fit P ext) (hR : R.tmps = ac.tmps ∧ R.params = cx.ps ∧ R.assign = cx.asg ∧ R.body = cx.body) {nt : Nat} : ∀ fu : Nat,
  (∀ c T s ys pe e T' s' ys' pe', evI P ext nt cx fu c T s ys pe = some (e, T', s', ys', pe') → (∀ p ∈ s'.ob, p.1 = p.2) → ∀ ι a W, TR ι nt [] T a → YS l0 ys a → IS P ι0 h0 w0 n0 cx.nt cx.T ac l0 K (Rp R pe) ι s W → Fresh ι s.n s'.n →
   c.wpIn (Fr none) 0 P (Zva P ι0 h0 w0 n0 cx ac l0 K R nt ι s e T' s' ys' pe') a W) ∧
  (∀ c T s ys pe e T' s' ys' pe', evI P ext nt cx fu (.loop c) T s ys pe = some (e, T', s', ys', pe') → (∀ p ∈ s'.ob, p.1 = p.2) → ∀ ι a W, TR ι nt [] T a → YS l0 ys a → IS P ι0 h0 w0 n0 cx.nt cx.T ac l0 K (Rp R pe) ι s W → Fresh ι s.n s'.n →
   Code.roundsIn (Fr none) 0 P c (Zva P ι0 h0 w0 n0 cx ac l0 K R nt ι s e T' s' ys' pe') fu a W) := by
 intro fu
 induction fu with
 | zero => exact ⟨fun _ _ _ _ _ _ _ _ _ _ h => by simp [evI] at h, fun _ _ _ _ _ _ _ _ _ _ h => by simp [evI] at h⟩
 | succ fu ih =>
  obtain ⟨ihC, ihL⟩ := ih
  have two : ∀ {ι ι1 : Ren} {s s1 s' : St} {e : Ex} {T' : Tr Value} {ys' : List Tmp} {pe' : Option Ex}, Dom ι ι1 s.n s1.n → s.n ≤ s1.n → s1.n ≤ s'.n → ∀ ex a W, Zva P ι0 h0 w0 n0 cx ac l0 K R nt ι1 s1 e T' s' ys' pe' ex a W → Zva P ι0 h0 w0 n0 cx ac l0 K R nt ι s e T' s' ys' pe' ex a W :=
   fun hd h1 h2 ex a W ⟨hx, ι', k1, k2, k3, k4⟩ => ⟨hx, ι', k1, k2, k3, hd.trans k4 h1 h2⟩
  have loops : ∀ c T s ys pe e T' s' ys' pe', evI P ext nt cx (fu + 1) (.loop c) T s ys pe = some (e, T', s', ys', pe') → (∀ p ∈ s'.ob, p.1 = p.2) → ∀ ι a W, TR ι nt [] T a → YS l0 ys a → IS P ι0 h0 w0 n0 cx.nt cx.T ac l0 K (Rp R pe) ι s W → Fresh ι s.n s'.n →
    Code.roundsIn (Fr none) 0 P c (Zva P ι0 h0 w0 n0 cx ac l0 K R nt ι s e T' s' ys' pe') (fu + 1) a W := by
   intro x T s ys pe e T' s' ys' pe' h ho ι a W hT hY I hf
   simp only [evI] at h
   rw [roundsIn_succ]
   split at h
   ·rename_i T1 s1 ys1 pe1 h1
    have u1 := ZfY F fu _ _ _ _ _ _ _ _ _ _ h1
    have u2 := ZfY F fu _ _ _ _ _ _ _ _ _ _ h
    refine wpIn_mono (ihC x T s ys pe .normal T1 s1 ys1 pe1 h1 (ZaY u2.ob ho) ι a W hT hY I (hf.mono (Nat.le_refl _) u2.n)) ?_
    rintro ex a1 w1 ⟨rfl, ι1, g1, g2, g3, g4⟩
    exact Zlb (two g4 u1.n u2.n) fu a1 w1 (ihL x T1 s1 ys1 pe1 e T' s' ys' pe' h ho ι1 a1 w1 g1 g2 g3 (hf.after g4 u1.n))
   ·rename_i i r h1
    injection h with h; simp only [Prod.mk.injEq] at h; obtain ⟨rfl, rfl⟩ := h
    refine wpIn_mono (ihC x T s ys pe _ _ _ _ _ h1 ho ι a W hT hY I hf) ?_
    rintro ex a1 w1 ⟨rfl, hq⟩
    exact ⟨rfl, hq⟩
   ·rename_i r h1
    injection h with h; simp only [Prod.mk.injEq] at h; obtain ⟨rfl, rfl⟩ := h
    refine wpIn_mono (ihC x T s ys pe _ _ _ _ _ h1 ho ι a W hT hY I hf) ?_
    rintro ex a1 w1 ⟨rfl, hq⟩
    exact ⟨rfl, hq⟩
   ·cases h
  refine ⟨fun c T s ys pe e T' s' ys' pe' h ho ι a W hT hY I hf => ?_, loops⟩
  have h0' := h
  cases c <;> simp only [evI] at h
  case skip => injection h with h; simp only [Prod.mk.injEq] at h; obtain ⟨rfl, rfl, rfl, rfl, rfl⟩ := h; exact wpIn_skip ⟨rfl, ι, hT, hY, I, Dom.refl⟩
  case ret => injection h with h; simp only [Prod.mk.injEq] at h; obtain ⟨rfl, rfl, rfl, rfl, rfl⟩ := h; exact wpIn_ret ⟨rfl, ι, hT, hY, I, Dom.refl⟩
  case exit id => injection h with h; simp only [Prod.mk.injEq] at h; obtain ⟨rfl, rfl, rfl, rfl, rfl⟩ := h; exact wpIn_exit ⟨rfl, ι, hT, hY, I, Dom.refl⟩
  case seq x y =>
   split at h
   ·rename_i T1 s1 ys1 pe1 h1
    have u1 := ZfY F fu _ _ _ _ _ _ _ _ _ _ h1
    have u2 := ZfY F fu _ _ _ _ _ _ _ _ _ _ h
    refine wpIn_seq (wpIn_mono (ihC x T s ys pe .normal T1 s1 ys1 pe1 h1 (ZaY u2.ob ho) ι a W hT hY I (hf.mono (Nat.le_refl _) u2.n)) ?_)
    rintro ex a1 w1 ⟨rfl, ι1, g1, g2, g3, g4⟩
    exact wpIn_mono (ihC y T1 s1 ys1 pe1 e T' s' ys' pe' h ho ι1 a1 w1 g1 g2 g3 (hf.after g4 u1.n)) (two g4 u1.n u2.n)
   ·rename_i i r h1
    injection h with h; simp only [Prod.mk.injEq] at h; obtain ⟨rfl, rfl⟩ := h
    refine wpIn_seq (wpIn_mono (ihC x T s ys pe _ _ _ _ _ h1 ho ι a W hT hY I hf) ?_)
    rintro ex a1 w1 ⟨rfl, hq⟩
    exact ⟨rfl, hq⟩
   ·rename_i r h1
    injection h with h; simp only [Prod.mk.injEq] at h; obtain ⟨rfl, rfl⟩ := h
    refine wpIn_seq (wpIn_mono (ihC x T s ys pe _ _ _ _ _ h1 ho ι a W hT hY I hf) ?_)
    rintro ex a1 w1 ⟨rfl, hq⟩
    exact ⟨rfl, hq⟩
   ·cases h
  case cond x y z =>
   split at h
   ·rename_i t ht
    have hx : a.eval x = .bool t := Zhs ((ht ▸ hT.opnd x : VR ι (.bool t) (ZcY a x)).bool_inv)
    split at h
    ·exact wpIn_cond_true hx (ihC y T s ys pe e T' s' ys' pe' h ho ι a W hT hY I hf)
    ·exact wpIn_cond_false hx (ihC z T s ys pe e T' s' ys' pe' h ho ι a W hT hY I hf)
   ·cases h
  case block id x =>
   split at h
   ·rename_i i r h1
    cases hb : Nat.beq i id with
    | true =>
     rw [hb] at h
     injection h with h; simp only [Prod.mk.injEq] at h; obtain ⟨rfl, rfl⟩ := h
     refine wpIn_block (wpIn_mono (ihC x T s ys pe _ _ _ _ _ h1 ho ι a W hT hY I hf) ?_)
     rintro ex a1 w1 ⟨rfl, hq⟩
     show if i = id then _ else _
     rw [if_pos (Nat.eq_of_beq_eq_true hb)]
     exact ⟨rfl, hq⟩
    | false =>
     rw [hb] at h
     injection h with h; simp only [Prod.mk.injEq] at h; obtain ⟨rfl, rfl⟩ := h
     refine wpIn_block (wpIn_mono (ihC x T s ys pe _ _ _ _ _ h1 ho ι a W hT hY I hf) ?_)
     rintro ex a1 w1 ⟨rfl, hq⟩
     show if i = id then _ else _
     rw [if_neg (fun e => by rw [ZkY e] at hb; cases hb)]
     exact ⟨rfl, hq⟩
   ·rename_i r h1
    injection h with h; simp only [Prod.mk.injEq] at h; obtain ⟨rfl, rfl⟩ := h
    refine wpIn_block (wpIn_mono (ihC x T s ys pe _ _ _ _ _ h1 ho ι a W hT hY I hf) ?_)
    rintro ex a1 w1 ⟨rfl, hq⟩
    exact ⟨rfl, hq⟩
   ·rename_i r h1
    injection h with h; simp only [Prod.mk.injEq] at h; obtain ⟨rfl, rfl⟩ := h
    refine wpIn_block (wpIn_mono (ihC x T s ys pe _ _ _ _ _ h1 ho ι a W hT hY I hf) ?_)
    rintro ex a1 w1 ⟨rfl, hq⟩
    exact ⟨rfl, hq⟩
   ·cases h
  case loop x => exact wpIn_loop_rounds (fu + 1) (loops x T s ys pe e T' s' ys' pe' h0' ho ι a W hT hY I hf)
  case region id ops draw =>
   split at h
   ·cases h
   ·split at h
    ·rename_i T1 s1 ys1 pe1 h1
     injection h with h; simp only [Prod.mk.injEq] at h; obtain ⟨rfl, rfl, rfl, rfl, rfl⟩ := h
     exact wpIn_region_list (ZlA F hR ops.toList T s ys pe T1 s1 ys1 pe1 h1 ho ι a W _ hT hY I hf fun ι' a' W' k1 k2 k3 k4 => ⟨rfl, ι', k1, k2, k3, k4⟩)
    ·cases h
  all_goals cases h
end
def Mk (b : Nat) (m : Bool) (D : List Deferred) (ι : Ren) (w : World) : Prop := match m with
 | false => D = []
 | true => ∃ K, b ≤ K ∧ D = [{ target := .collected K, args := #[] }] ∧ w.heap[K]? = some (.deferred (some [])) ∧ ∀ k b, ι k = some b → b.1 ≠ K
theorem Mk.step {b : Nat} {m : Bool} {D : List Deferred} {ι ι1 : Ren} {h h1 : AH} {w w1 : World} (hm : Mk b m D ι w) (g : Step P ι h w ι1 h1 w1) : Mk b m D ι1 w1 := by
 cases m with
 | false => exact hm
 | true =>
  obtain ⟨K, hb, e, hk, hn⟩ := hm
  obtain ⟨a1, a2⟩ := ZtN g (Array.getElem?_eq_some_iff.1 hk).1 hn
  exact ⟨K, hb, e, a2.trans hk, a1⟩
def Zqm (b : Nat) (P : Program) (ι : Ren) (s : St) (w : World) (nt : Nat) (e : Ex) (T' : Tr Value) (s' : St) (m' : Bool) (ex : Exit) (a' : Act) (w' : World) : Prop :=
 ex = e.out ∧ ∃ ι' D', Step P ι s.h.get w ι' s'.h.get w' ∧ Dom ι ι' s.n s'.n ∧ TR ι' nt D' T' a' ∧ Mk b m' D' ι' w'
theorem up_rf (F : Fit P ext) {nt fu : Nat} {g : Operand} {ps : Array Tmp} {asg body : Code} {T : Tr Value} {s s' : St} {e : Ex} (h : ZwE P ext nt fu g ps asg body T s = some (e, s')) : Up s s' := by
 unfold ZwE at h
 split at h
 ·split at h
  ·split at h
   ·obtain ⟨_, h⟩ := Zo h
    split at h
    ·cases h
    ·rename_i h1; injection h with h; injection h with q1 q2; subst q2; exact ZfY F _ _ _ _ _ _ _ _ _ _ _ h1
    ·rename_i h1; obtain ⟨_, h⟩ := Zqf h; injection h with h; injection h with q1 q2; subst q2; exact ZfY F _ _ _ _ _ _ _ _ _ _ _ h1
    ·cases h
   ·cases h
  ·cases h
 ·cases h
theorem Zz0 (F : Fit P ext) {nt fu : Nat} {g : Operand} {ps : Array Tmp} {asg body : Code} {T : Tr Value} {s s' : St} {e : Ex} (h : ZwE P ext nt fu g ps asg body T s = some (e, s')) (ho : ∀ p ∈ s'.ob, p.1 = p.2) {b : Nat} {ι : Ren} {a : Act} {w : World} (hbw : b ≤ w.heap.size)
  (hT : TR ι nt [] T a) (he : Emb P ι s.h.get w) (hf : Fresh ι s.n s'.n) : (Code.rangeFunc g ps asg body).wpIn (Fr none) 0 P (Zqm b P ι s w nt e T s' true) a w := by
 unfold ZwE at h
 split at h
 ·rename_i gf av bv hg
  split at h
  ·rename_i fn hfn
   split at h
   ·rename_i c hb
    obtain ⟨hgd, h⟩ := Zo h
    simp only [Bool.and_eq_true] at hgd
    obtain ⟨⟨hgd, hsz⟩, hres⟩ := hgd
    have hsz := Nat.le_of_ble_eq_true hsz
    have hres := Nat.eq_of_beq_eq_true hres
    have key : ∃ e0 T1 ys1 pe, evI P ext fn.ntmps ⟨nt, T, ps, asg, body⟩ fu c (Zhp 0 (av ++ #[Value.chan (some 0)] ++ bv).toList .nil) s [av.size] none = some (e0, T1, s', ys1, pe) ∧ (e0 = .normal ∨ e0 = .ret) ∧ e = (match pe with | none => .normal | some e => e) ∧ (∀ e1, pe = some e1 → isN e1 = false) := by
     split at h
     ·cases h
     ·rename_i e0 T1 s1 ys1 hne h1
      injection h with h; injection h with q1 q2; subst q1 q2
      refine ⟨e0, T1, ys1, none, h1, ?_, rfl, fun e1 he => by cases he⟩
      cases e0 with
      | normal => exact .inl rfl
      | ret => exact .inr rfl
      | exit i => exact (hne i rfl).elim
     ·rename_i e0 T1 s1 ys1 e1 hne h1
      obtain ⟨hn1, h⟩ := Zqf h
      injection h with h; injection h with q1 q2; subst q1 q2
      refine ⟨e0, T1, ys1, some e1, h1, ?_, rfl, fun e2 he => by injection he with he; rw [← he]; exact hn1⟩
      cases e0 with
      | normal => exact .inl rfl
      | ret => exact .inr rfl
      | exit i => exact (hne i rfl).elim
     ·cases h
    obtain ⟨e0, T1, ys1, pe, h1, he0, hepe, hnn⟩ := key
    have hgv : ∃ av' bv', ZcY a g = .func (.func gf) av' bv' ∧ VRs ι av av' ∧ VRs ι bv bv' := by
     have hv := hg ▸ hT.opnd g
     generalize ZcY a g = x' at hv
     cases hv with
     | atom h =>
      simp [Ev.atom] at h
      obtain ⟨rfl, rfl⟩ := h
      exact ⟨_, _, rfl, ⟨rfl, fun i x y hx => by simp at hx⟩, ⟨rfl, fun i x y hx => by simp at hx⟩⟩
     | func hs ht h1 h2 => exact ⟨_, _, rfl, ⟨hs, h1⟩, ⟨ht, h2⟩⟩
    obtain ⟨av', bv', hgv, hav, hbv⟩ := hgv
    have hgv : a.eval g = .func (.func gf) av' bv' := by
     cases g with
     | const v => simp only [ZhF] at hgd; simpa [ZcY, hgd, Act.eval] using hgv
     | _ => exact hgv
    refine wpIn_rangeFunc ?_
    intro fn0 _
    obtain ⟨R, hRd⟩ : ∃ R : Loop, R = { state := .ready, pending := none, fn := fn0, tmps := a.tmps, params := ps, assign := asg, body, defers := w.heap.size } := ⟨_, rfl⟩
    obtain ⟨W1, hW1⟩ : ∃ W1, (w.alloc (.deferred (some []))).alloc (.loop R) = W1 := ⟨_, rfl⟩
    have hL1 : W1.heap[w.heap.size + 1]? = some (.loop (Rp R none)) := by
     rw [show Rp R none = R by rw [hRd]; rfl]
     rw [← hW1]; have := World.alloc_heap_new (w.alloc (.deferred (some []))) (.loop R); rwa [World.size_alloc] at this
    have hK1 : W1.heap[w.heap.size]? = some (.deferred (some [])) := by
     rw [← hW1]; exact (Below.heap_alloc _ _ _ (by simp)).trans (World.alloc_heap_new w _)
    have hb1 : Below w.heap.size w W1 := by
     rw [← hW1]; exact ((Below.refl _ w).alloc (Nat.le_refl _) _).alloc (by simp) _
    have I1 : IS P ι s.h.get w s.n nt T a (w.heap.size + 1) w.heap.size (Rp R none) ι s W1 :=
     ⟨Step.below he hb1, Dom.refl, Nat.le_refl _, ⟨hT.1, rfl, hT.2.2⟩, hL1, hK1, by omega, by omega, fun k b hk => by have := he.lt k b hk; omega⟩
    have hargs : VRs ι (av ++ #[Value.chan (some 0)] ++ bv) (av' ++ #[Value.func (.yield (w.heap.size + 1)) #[] #[]] ++ bv') :=
     Zgx (Zgx hav ⟨rfl, fun i x y hx hy => by
      cases i with
      | zero => simp at hx hy; rw [← hx, ← hy]; exact .glob rfl
      | succ i => simp at hx⟩) hbv
    refine ⟨w.heap.size + 1, [{ target := .collected w.heap.size, args := #[] }], W1, { target := .fn (.func gf) bv', args := av' ++ #[.func (.yield (w.heap.size + 1)) #[] #[]] }, W1, gf,
     av' ++ #[.func (.yield (w.heap.size + 1)) #[] #[]] ++ bv', W1, ?_, ?_, fun _ _ => trivial, ?_, fun e => (by cases e), ?_⟩
    ·rw [← hW1, hRd]; exact run_enterLoop_outer _ _ _ _ _
    ·simp only [resolve, hgv]
     simp [go_sem, Deferred.ofValue]
    ·simp [invoke, ZeS hfn (F.go gf fn hfn) hb]
    ·refine callsIn_of_wp_marks hfn hb trivial ?_
     refine wpIn_mono ((Z0d (R := R) (cx := ⟨nt, T, ps, asg, body⟩) (ac := a) F ⟨by rw [hRd], by rw [hRd], by rw [hRd], by rw [hRd]⟩ fu).1 c _ s _ none e0 T1 s' ys1 pe h1 ho ι _ W1 (ZlE hargs hsz) ?_ I1 hf) ?_
     ·intro t ht
      rw [List.mem_singleton] at ht
      subst ht
      have hs := hav.1
      rw [Array.getD_eq_getD_getElem?, Array.getElem?_append_left (by simp; omega), Array.getElem?_append_left (by simp; omega), Array.getElem?_append_right (by omega)]
      simp [hs]
     ·rintro ex a2 w2 ⟨rfl, ι2, g1, _, I2, g4⟩
      have hr := run_endLoop (P := P) I2.lo (by cases pe <;> simp [Rp])
      have I3 := I2.put { Rp R pe with state := .exhausted }
      have hr2 : ∃ v', (results fn a2.tmps).run P w2 = .ok v' w2 := by
       have hnil : fn.results.toList = [] := List.eq_nil_of_length_eq_zero hres
       obtain ⟨v', q, _⟩ := ZfR (fn := fn) (v := .tuple #[]) g1 I2.st.emb (by rw [hnil]; rfl)
       exact ⟨v', q⟩
      obtain ⟨v', hrun⟩ := hr2
      have fin : LeavesInM (Fr none) (0 - 1) P fn a2.tmps (rangePost (Fr none) 0 P (w.heap.size + 1) (Zqm b P ι s w nt e T s' true) { a with defers := [{ target := .collected w.heap.size, args := #[] }] ++ a.defers }) a2.defers .returning w2 := by
       rw [g1.2.1]
       refine ⟨v', hrun, _, _, hr, ?_⟩
       have post : Zqm b P ι s w nt e T s' true e.out { a with defers := [{ target := .collected w.heap.size, args := #[] }] ++ a.defers } (w2.putObj (w.heap.size + 1) (.loop { Rp R pe with state := .exhausted })) := by
        refine ⟨rfl, ι2, _, I3.st, I3.dm, ⟨I3.tr.1, rfl, I3.tr.2.2⟩, w.heap.size, hbw, ?_, I3.de, fun k b hk => (I3.nl k b hk).2⟩
        rw [hT.2.1]; rfl
       cases pe with
       | none => rw [hepe] at post ⊢; exact post
       | some e1 =>
        cases e1 with
        | normal => exact absurd (hnn _ rfl) (by simp [isN])
        | ret => rw [hepe] at post ⊢; exact wpIn_ret post
        | exit i => rw [hepe] at post ⊢; exact wpIn_exit post
      rcases he0 with rfl | rfl
      ·exact fin
      ·exact fin
   ·cases h
  ·cases h
 ·cases h
end
end Ev
end Go.Proofs.YtgpekgedjmhmeaaGreat
/- Functions with a range over a function do what the runner says of them. -/
namespace Go.Proofs.YtgpekgedjmhmeaaGreat
open Go.RowKit
namespace Ev
section
variable {P : Program} {ext : FuncId → Option Ext}
theorem ZjJ (F : Fit P ext) {nt : Nat} : ∀ (fu : Nat) (c : Code) (T : Tr Value) (s : St) (m : Bool) (e : Ex) (T' : Tr Value) (s' : St) (m' : Bool), evR P ext nt fu c T s m = some (e, T', s', m') → Up s s'
 | 0, _, _, _, _, _, _, _, _, h => by simp [evR] at h
 | fu + 1, c, T, s, m, e, T', s', m', h => by
  have upC := (ZeN (P := P) (ext := ext) (fun f g hg => (F.hp f g hg).up) (fu + 1)).1
  cases c <;> simp only [evR] at h
  case skip => injection h with h; simp only [Prod.mk.injEq] at h; obtain ⟨rfl, rfl, rfl, rfl⟩ := h; exact Up.refl _
  case ret => injection h with h; simp only [Prod.mk.injEq] at h; obtain ⟨rfl, rfl, rfl, rfl⟩ := h; exact Up.refl _
  case exit id => injection h with h; simp only [Prod.mk.injEq] at h; obtain ⟨rfl, rfl, rfl, rfl⟩ := h; exact Up.refl _
  case seq x y =>
   split at h
   ·rename_i T1 s1 m1 h1; exact (ZjJ F fu _ _ _ _ _ _ _ _ h1).trans (ZjJ F fu _ _ _ _ _ _ _ _ h)
   ·rename_i i r h1; injection h with h; simp only [Prod.mk.injEq] at h; obtain ⟨rfl, rfl⟩ := h; exact ZjJ F fu _ _ _ _ _ _ _ _ h1
   ·rename_i r h1; injection h with h; simp only [Prod.mk.injEq] at h; obtain ⟨rfl, rfl⟩ := h; exact ZjJ F fu _ _ _ _ _ _ _ _ h1
   ·cases h
  case cond x y z =>
   split at h
   ·split at h
    ·exact ZjJ F fu _ _ _ _ _ _ _ _ h
    ·exact ZjJ F fu _ _ _ _ _ _ _ _ h
   ·cases h
  case block id x =>
   split at h
   ·rename_i i r h1
    cases hb : Nat.beq i id with
    | true => rw [hb] at h; injection h with h; simp only [Prod.mk.injEq] at h; obtain ⟨rfl, rfl⟩ := h; exact ZjJ F fu _ _ _ _ _ _ _ _ h1
    | false => rw [hb] at h; injection h with h; simp only [Prod.mk.injEq] at h; obtain ⟨rfl, rfl⟩ := h; exact ZjJ F fu _ _ _ _ _ _ _ _ h1
   ·rename_i r h1; injection h with h; simp only [Prod.mk.injEq] at h; obtain ⟨rfl, rfl⟩ := h; exact ZjJ F fu _ _ _ _ _ _ _ _ h1
   ·rename_i r h1; injection h with h; simp only [Prod.mk.injEq] at h; obtain ⟨rfl, rfl⟩ := h; exact ZjJ F fu _ _ _ _ _ _ _ _ h1
   ·cases h
  case rangeFunc g ps asg body =>
   obtain ⟨_, h⟩ := Zqf h
   split at h
   ·rename_i e1 s1 h1
    injection h with h; simp only [Prod.mk.injEq] at h; obtain ⟨rfl, rfl, rfl, rfl⟩ := h
    exact up_rf F h1
   ·cases h
  case region id ops draw =>
   split at h
   ·rename_i e1 T1 s1 h1
    injection h with h; simp only [Prod.mk.injEq] at h; obtain ⟨rfl, rfl, rfl, rfl⟩ := h
    exact upC _ _ _ _ _ _ _ h1
   ·cases h
  case loop x =>
   split at h
   ·rename_i e1 T1 s1 h1
    injection h with h; simp only [Prod.mk.injEq] at h; obtain ⟨rfl, rfl, rfl, rfl⟩ := h
    exact upC _ _ _ _ _ _ _ h1
   ·cases h
  all_goals cases h
theorem ZfZ (F : Fit P ext) {nt : Nat} : ∀ (fu : Nat) (c : Code) (T : Tr Value) (s : St) (m : Bool) (e : Ex) (T' : Tr Value) (s' : St) (m' : Bool), evR P ext nt fu c T s m = some (e, T', s', m') → (∀ p ∈ s'.ob, p.1 = p.2) →
  ∀ b ι D a w, b ≤ w.heap.size → TR ι nt D T a → Mk b m D ι w → Emb P ι s.h.get w → Fresh ι s.n s'.n → c.wpIn (Fr none) 0 P (Zqm b P ι s w nt e T' s' m') a w
 | 0, _, _, _, _, _, _, _, _, h => by simp [evR] at h
 | fu + 1, c, T, s, m, e, T', s', m', h => by
  intro ho b ι D a w hbw hT hM he hf
  have code : ∀ {c : Code} {e1 : Ex} {T1 : Tr Value} {s1 : St}, Zah P ext nt (fu + 1) c T s = some (e1, T1, s1) → (∀ p ∈ s1.ob, p.1 = p.2) → Fresh ι s.n s1.n → c.wpIn (Fr none) 0 P (Zqm b P ι s w nt e1 T1 s1 m) a w := fun h1 ho1 hf1 => by
   refine (wpIn_wide (n := 0)).2 (wp_mono ((ZfD F (fu + 1)).1 nt _ T s _ _ _ h1 ho1 ι D a w hT he hf1) ?_)
   rintro ex a1 w1 ⟨rfl, ι1, g1, g2, g3⟩
   exact ⟨rfl, ι1, D, g1, g2, g3, hM.step g1⟩
  have two : ∀ {ι1 : Ren} {s1 : St} {w1 : World}, Step P ι s.h.get w ι1 s1.h.get w1 → Dom ι ι1 s.n s1.n → s.n ≤ s1.n → s1.n ≤ s'.n → ∀ ex a W, Zqm b P ι1 s1 w1 nt e T' s' m' ex a W → Zqm b P ι s w nt e T' s' m' ex a W :=
   fun hS hd h1 h2 ex a W ⟨hx, ι', D', k1, k2, k3, k4⟩ => ⟨hx, ι', D', hS.trans k1, hd.trans k2 h1 h2, k3, k4⟩
  cases c <;> simp only [evR] at h
  case skip => injection h with h; simp only [Prod.mk.injEq] at h; obtain ⟨rfl, rfl, rfl, rfl⟩ := h; exact wpIn_skip ⟨rfl, ι, D, Step.refl he, Dom.refl, hT, hM⟩
  case ret => injection h with h; simp only [Prod.mk.injEq] at h; obtain ⟨rfl, rfl, rfl, rfl⟩ := h; exact wpIn_ret ⟨rfl, ι, D, Step.refl he, Dom.refl, hT, hM⟩
  case exit id => injection h with h; simp only [Prod.mk.injEq] at h; obtain ⟨rfl, rfl, rfl, rfl⟩ := h; exact wpIn_exit ⟨rfl, ι, D, Step.refl he, Dom.refl, hT, hM⟩
  case seq x y =>
   split at h
   ·rename_i T1 s1 m1 h1
    have u1 := ZjJ F fu _ _ _ _ _ _ _ _ h1
    have u2 := ZjJ F fu _ _ _ _ _ _ _ _ h
    refine wpIn_seq (wpIn_mono (ZfZ F fu x T s m .normal T1 s1 m1 h1 (ZaY u2.ob ho) b ι D a w hbw hT hM he (hf.mono (Nat.le_refl _) u2.n)) ?_)
    rintro ex a1 w1 ⟨rfl, ι1, D1, g1, g2, g3, g4⟩
    exact wpIn_mono (ZfZ F fu y T1 s1 m1 e T' s' m' h ho b ι1 D1 a1 w1 (Nat.le_trans hbw g1.size) g3 g4 g1.emb (hf.after g2 u1.n)) (two g1 g2 u1.n u2.n)
   ·rename_i i r h1
    injection h with h; simp only [Prod.mk.injEq] at h; obtain ⟨rfl, rfl⟩ := h
    refine wpIn_seq (wpIn_mono (ZfZ F fu x T s m _ _ _ _ h1 ho b ι D a w hbw hT hM he hf) ?_)
    rintro ex a1 w1 ⟨rfl, hq⟩
    exact ⟨rfl, hq⟩
   ·rename_i r h1
    injection h with h; simp only [Prod.mk.injEq] at h; obtain ⟨rfl, rfl⟩ := h
    refine wpIn_seq (wpIn_mono (ZfZ F fu x T s m _ _ _ _ h1 ho b ι D a w hbw hT hM he hf) ?_)
    rintro ex a1 w1 ⟨rfl, hq⟩
    exact ⟨rfl, hq⟩
   ·cases h
  case cond x y z =>
   split at h
   ·rename_i t ht
    have hx : a.eval x = .bool t := Zhs ((ht ▸ hT.opnd x : VR ι (.bool t) (ZcY a x)).bool_inv)
    split at h
    ·exact wpIn_cond_true hx (ZfZ F fu y T s m e T' s' m' h ho b ι D a w hbw hT hM he hf)
    ·exact wpIn_cond_false hx (ZfZ F fu z T s m e T' s' m' h ho b ι D a w hbw hT hM he hf)
   ·cases h
  case block id x =>
   split at h
   ·rename_i i r h1
    cases hb : Nat.beq i id with
    | true =>
     rw [hb] at h
     injection h with h; simp only [Prod.mk.injEq] at h; obtain ⟨rfl, rfl⟩ := h
     refine wpIn_block (wpIn_mono (ZfZ F fu x T s m _ _ _ _ h1 ho b ι D a w hbw hT hM he hf) ?_)
     rintro ex a1 w1 ⟨rfl, hq⟩
     show if i = id then _ else _
     rw [if_pos (Nat.eq_of_beq_eq_true hb)]
     exact ⟨rfl, hq⟩
    | false =>
     rw [hb] at h
     injection h with h; simp only [Prod.mk.injEq] at h; obtain ⟨rfl, rfl⟩ := h
     refine wpIn_block (wpIn_mono (ZfZ F fu x T s m _ _ _ _ h1 ho b ι D a w hbw hT hM he hf) ?_)
     rintro ex a1 w1 ⟨rfl, hq⟩
     show if i = id then _ else _
     rw [if_neg (fun e => by rw [ZkY e] at hb; cases hb)]
     exact ⟨rfl, hq⟩
   ·rename_i r h1
    injection h with h; simp only [Prod.mk.injEq] at h; obtain ⟨rfl, rfl⟩ := h
    refine wpIn_block (wpIn_mono (ZfZ F fu x T s m _ _ _ _ h1 ho b ι D a w hbw hT hM he hf) ?_)
    rintro ex a1 w1 ⟨rfl, hq⟩
    exact ⟨rfl, hq⟩
   ·rename_i r h1
    injection h with h; simp only [Prod.mk.injEq] at h; obtain ⟨rfl, rfl⟩ := h
    refine wpIn_block (wpIn_mono (ZfZ F fu x T s m _ _ _ _ h1 ho b ι D a w hbw hT hM he hf) ?_)
    rintro ex a1 w1 ⟨rfl, hq⟩
    exact ⟨rfl, hq⟩
   ·cases h
  case rangeFunc g ps asg body =>
   obtain ⟨hm, h⟩ := Zqf h
   split at h
   ·rename_i e1 s1 h1
    injection h with h; simp only [Prod.mk.injEq] at h; obtain ⟨rfl, rfl, rfl, rfl⟩ := h
    subst hm
    obtain rfl : D = [] := hM
    exact Zz0 F h1 ho hbw hT he hf
   ·cases h
  case region id ops draw =>
   split at h
   ·rename_i e1 T1 s1 h1
    injection h with h; simp only [Prod.mk.injEq] at h; obtain ⟨rfl, rfl, rfl, rfl⟩ := h
    exact code h1 ho hf
   ·cases h
  case loop x =>
   split at h
   ·rename_i e1 T1 s1 h1
    injection h with h; simp only [Prod.mk.injEq] at h; obtain ⟨rfl, rfl, rfl, rfl⟩ := h
    exact code h1 ho hf
   ·cases h
  all_goals cases h
theorem Zqn (F : Fit P ext) {fu : Nat} {f : FuncId} {fn : Func} {c : Code} (hfn : P.funcs[f]? = some fn) (hb : fn.body = some c) : Zvl P f (ZlJ P ext fu f) := by
 refine ⟨⟨fn, c, hfn, hb⟩, fun args s v s' h => ?_, fun args s v s' h ho ι w args' ha he hf => ?_⟩
 ·unfold ZlJ at h
  rw [hfn] at h
  simp only [hb] at h
  replace h := (Zo h).2
  split at h
  ·cases h
  ·rename_i h1
   have u := ZjJ F fu _ _ _ _ _ _ _ _ h1
   split at h
   ·injection h with h; injection h with q1 q2; subst q2; exact u
   ·injection h with h; injection h with q1 q2; subst q2; exact u
   ·cases h
  ·cases h
 ·unfold ZlJ at h
  rw [hfn] at h
  simp only [hb] at h
  obtain ⟨hsz, h⟩ := Zo h
  have hle : args.size ≤ fn.ntmps := Nat.le_of_ble_eq_true hsz
  split at h
  ·cases h
  ·rename_i ex T1 s1 m1 hne h1
   have hs : s' = s1 ∧ (match ZbY P T1 s1 fn.results.toList with | some [v] => some v | some vs => some (.tuple vs.toArray) | none => none) = some v := by
    split at h
    ·rename_i hr; injection h with h; injection h with q1 q2; subst q1 q2; exact ⟨rfl, by rw [hr]⟩
    ·rename_i vs hn hr; injection h with h; injection h with q1 q2; subst q1 q2
     refine ⟨rfl, ?_⟩
     rw [hr]
     rcases vs with _ | ⟨x, _ | ⟨y, vs⟩⟩
     ·rfl
     ·exact absurd rfl (hn x)
     ·rfl
    ·cases h
   obtain ⟨rfl, hres⟩ := hs
   refine (callsIn_wide (n := 0)).1 (callsIn_of_wp_marks hfn hb trivial (wpIn_mono (ZfZ F fu c _ s false ex T1 s' m1 h1 ho w.heap.size ι [] _ w (Nat.le_refl _) (ZlE ha hle) rfl he hf) ?_))
   rintro e2 a2 w2 ⟨rfl, ι2, D2, g1, g2, g3, g4⟩
   have fin : LeavesInM (Fr none) 0 P fn a2.tmps (ZsH P ι s w v s') a2.defers .returning w2 := by
    rw [g3.2.1]
    cases m1 with
    | false =>
     obtain rfl : D2 = [] := g4
     obtain ⟨v', hrun, hv⟩ := ZfR g3 g1.emb hres
     exact ⟨v', hrun, v', ι2, rfl, g1, g2, hv⟩
    | true =>
     obtain ⟨K, hKw, rfl, hk, hn⟩ := g4
     have g1' := g1.put hKw hn (.deferred none)
     obtain ⟨v', hrun, hv⟩ := ZfR g3 g1'.emb hres
     exact ⟨by simp, .inl ⟨K, _, rfl, run_takeDeferred hk, v', hrun, v', ι2, rfl, g1', g2, hv⟩⟩
   cases ex with
   | normal => exact fin
   | ret => exact fin
   | exit i => exact (hne i rfl).elim
  ·cases h
end
end Ev
end Go.Proofs.YtgpekgedjmhmeaaGreat
/- The runner over this program. -/
namespace Go.Proofs.YtgpekgedjmhmeaaGreat
open Go.RowKit
namespace Ev

def Zym : FuncId → Option Ext := fun f =>
  bif Nat.beq f 168 then some (.at .i64 0) else
  bif Nat.beq f 266 then some (.at .i64 1) else
  bif Nat.beq f 315 then some (.at .i64 2) else
  bif Nat.beq f 323 then some (.at .i64 3) else
  bif Nat.beq f 313 then some (.at .i32 2) else
  bif Nat.beq f 308 then some (.at .i32 3) else
  bif Nat.beq f 200 then some (.at .u32 0) else
  bif Nat.beq f 264 then some (.at .u32 1) else
  bif Nat.beq f 307 then some (.mark 0) else
  bif Nat.beq f 309 then some (.mark 0) else
  bif Nat.beq f 310 then some (.mark 1) else
  bif Nat.beq f 312 then some (.mark 1) else
   none

theorem noGo : (Tryz.prog.funcs.toList.all fun fn => !(fn.name == "runtime.NumGoroutine")) = true := by kernel_rfl
theorem mixed : Tryz.prog.follows .mixedOrders = true := by kernel_rfl
def Zvt (sp : FuncId → Option (List Value → Option Value)) (hp : FuncId → Option (Array Value → St → Out)) : FuncId → Option Ext := fun f => match Zym f with
  | some e => some e
  | none => match sp f with
    | some g => some (.fn g)
    | none => match hp f with
      | some g => some (.hp g)
      | none => none
def noHp : FuncId → Option (Array Value → St → Out) := fun _ => none
def extW (sp : FuncId → Option (List Value → Option Value)) : FuncId → Option Ext := Zvt sp noHp
def ZsL (sp : FuncId → Option (List Value → Option Value)) : Prop := ∀ (f : Nat) (g : List Value → Option Value), sp f = some g → (∃ (fn : Func) (c : Code), Tryz.prog.funcs[f]? = some fn ∧ fn.body = some c) ∧
  ∀ (args : Array Value) (v : Value), ZS ZeP args.toList = true → g args.toList = some v → ∀ w, Calls Tryz.prog f args w fun e w' => e = .returned v ∧ Below w.heap.size w w'
def Zvb (hp : FuncId → Option (Array Value → St → Out)) : Prop := ∀ (f : Nat) (g : Array Value → St → Out), hp f = some g → Zvl Tryz.prog f g
theorem Zz1 : Zvb noHp := fun f g h => by cases h
theorem Zb3 {b : Bool} {x e : Ext} {y : Option Ext} (h : (bif b then some x else y) = some e) : (b = true ∧ x = e) ∨ y = some e := by
  cases b with
  | true => exact .inl ⟨rfl, by simpa using h⟩
  | false => exact .inr (by simpa using h)
theorem Zp4 {f : Nat} {e : Ext} (he : Zym f = some e) : (∀ (kk : IntKind) (c : Nat), e = .at kk c → ∃ fn : Func, Tryz.prog.funcs[f]? = some fn ∧ fn.body.isNone = true ∧ Extern.findNext fn = none ∧
    (c = 0 ∧ Extern.find fn = some (Extern.Atomic.loadT (.int kk)) ∨ c = 1 ∧ Extern.find fn = some Extern.Atomic.storeT ∨
     c = 2 ∧ Extern.find fn = some (Extern.Atomic.update (Op.intArith .add) kk true) ∨ c = 3 ∧ Extern.find fn = some (Extern.Atomic.casT (.int kk)))) ∧
    (∀ n : Nat, e = .mark n → ∃ fn : Func, Tryz.prog.funcs[f]? = some fn ∧ fn.body.isNone = true ∧ Extern.findNext fn = none ∧
    (n = 0 ∧ (∃ m : Mark, Extern.find fn = some (fun _ => do mark m; pure Extern.Race.none_)) ∨ n = 1 ∧ ∃ m : Addr → Mark, Extern.find fn = some (Extern.Race.marked m))) ∧ (∀ g, e ≠ .fn g) ∧ (∀ g, e ≠ .hp g) ∧ (∀ S, e ≠ .tc S) := by
  unfold Zym at he
  rcases Zb3 he with ⟨hb, hx⟩ | he
  · obtain rfl := Nat.eq_of_beq_eq_true hb; subst hx; refine ⟨fun kk c hc => ?_, fun n hn => (by cases hn), fun g hg => (by cases hg), fun g hg => (by cases hg), fun S hg => (by cases hg)⟩; injection hc with h1 h2; subst h1 h2; exact ⟨_, Tryz.func168, by kernel_rfl, by kernel_rfl, .inl ⟨rfl, by kernel_rfl⟩⟩
  rcases Zb3 he with ⟨hb, hx⟩ | he
  · obtain rfl := Nat.eq_of_beq_eq_true hb; subst hx; refine ⟨fun kk c hc => ?_, fun n hn => (by cases hn), fun g hg => (by cases hg), fun g hg => (by cases hg), fun S hg => (by cases hg)⟩; injection hc with h1 h2; subst h1 h2; exact ⟨_, Tryz.func266, by kernel_rfl, by kernel_rfl, .inr (.inl ⟨rfl, by kernel_rfl⟩)⟩
  rcases Zb3 he with ⟨hb, hx⟩ | he
  · obtain rfl := Nat.eq_of_beq_eq_true hb; subst hx; refine ⟨fun kk c hc => ?_, fun n hn => (by cases hn), fun g hg => (by cases hg), fun g hg => (by cases hg), fun S hg => (by cases hg)⟩; injection hc with h1 h2; subst h1 h2; exact ⟨_, Tryz.func315, by kernel_rfl, by kernel_rfl, .inr (.inr (.inl ⟨rfl, by kernel_rfl⟩))⟩
  rcases Zb3 he with ⟨hb, hx⟩ | he
  · obtain rfl := Nat.eq_of_beq_eq_true hb; subst hx; refine ⟨fun kk c hc => ?_, fun n hn => (by cases hn), fun g hg => (by cases hg), fun g hg => (by cases hg), fun S hg => (by cases hg)⟩; injection hc with h1 h2; subst h1 h2; exact ⟨_, Tryz.func323, by kernel_rfl, by kernel_rfl, .inr (.inr (.inr ⟨rfl, by kernel_rfl⟩))⟩
  rcases Zb3 he with ⟨hb, hx⟩ | he
  · obtain rfl := Nat.eq_of_beq_eq_true hb; subst hx; refine ⟨fun kk c hc => ?_, fun n hn => (by cases hn), fun g hg => (by cases hg), fun g hg => (by cases hg), fun S hg => (by cases hg)⟩; injection hc with h1 h2; subst h1 h2; exact ⟨_, Tryz.func313, by kernel_rfl, by kernel_rfl, .inr (.inr (.inl ⟨rfl, by kernel_rfl⟩))⟩
  rcases Zb3 he with ⟨hb, hx⟩ | he
  · obtain rfl := Nat.eq_of_beq_eq_true hb; subst hx; refine ⟨fun kk c hc => ?_, fun n hn => (by cases hn), fun g hg => (by cases hg), fun g hg => (by cases hg), fun S hg => (by cases hg)⟩; injection hc with h1 h2; subst h1 h2; exact ⟨_, Tryz.func308, by kernel_rfl, by kernel_rfl, .inr (.inr (.inr ⟨rfl, by kernel_rfl⟩))⟩
  rcases Zb3 he with ⟨hb, hx⟩ | he
  · obtain rfl := Nat.eq_of_beq_eq_true hb; subst hx; refine ⟨fun kk c hc => ?_, fun n hn => (by cases hn), fun g hg => (by cases hg), fun g hg => (by cases hg), fun S hg => (by cases hg)⟩; injection hc with h1 h2; subst h1 h2; exact ⟨_, Tryz.func200, by kernel_rfl, by kernel_rfl, .inl ⟨rfl, by kernel_rfl⟩⟩
  rcases Zb3 he with ⟨hb, hx⟩ | he
  · obtain rfl := Nat.eq_of_beq_eq_true hb; subst hx; refine ⟨fun kk c hc => ?_, fun n hn => (by cases hn), fun g hg => (by cases hg), fun g hg => (by cases hg), fun S hg => (by cases hg)⟩; injection hc with h1 h2; subst h1 h2; exact ⟨_, Tryz.func264, by kernel_rfl, by kernel_rfl, .inr (.inl ⟨rfl, by kernel_rfl⟩)⟩
  rcases Zb3 he with ⟨hb, hx⟩ | he
  · obtain rfl := Nat.eq_of_beq_eq_true hb; subst hx; refine ⟨fun kk c hc => (by cases hc), fun n hn => ?_, fun g hg => (by cases hg), fun g hg => (by cases hg), fun S hg => (by cases hg)⟩; injection hn with h1; subst h1; exact ⟨_, Tryz.func307, by kernel_rfl, by kernel_rfl, .inl ⟨rfl, Mark.disable, by kernel_rfl⟩⟩
  rcases Zb3 he with ⟨hb, hx⟩ | he
  · obtain rfl := Nat.eq_of_beq_eq_true hb; subst hx; refine ⟨fun kk c hc => (by cases hc), fun n hn => ?_, fun g hg => (by cases hg), fun g hg => (by cases hg), fun S hg => (by cases hg)⟩; injection hn with h1; subst h1; exact ⟨_, Tryz.func309, by kernel_rfl, by kernel_rfl, .inl ⟨rfl, Mark.enable, by kernel_rfl⟩⟩
  rcases Zb3 he with ⟨hb, hx⟩ | he
  · obtain rfl := Nat.eq_of_beq_eq_true hb; subst hx; refine ⟨fun kk c hc => (by cases hc), fun n hn => ?_, fun g hg => (by cases hg), fun g hg => (by cases hg), fun S hg => (by cases hg)⟩; injection hn with h1; subst h1; exact ⟨_, Tryz.func310, by kernel_rfl, by kernel_rfl, .inr ⟨rfl, Mark.acquire, by kernel_rfl⟩⟩
  rcases Zb3 he with ⟨hb, hx⟩ | he
  · obtain rfl := Nat.eq_of_beq_eq_true hb; subst hx; refine ⟨fun kk c hc => (by cases hc), fun n hn => ?_, fun g hg => (by cases hg), fun g hg => (by cases hg), fun S hg => (by cases hg)⟩; injection hn with h1; subst h1; exact ⟨_, Tryz.func312, by kernel_rfl, by kernel_rfl, .inr ⟨rfl, Mark.releaseMerge, by kernel_rfl⟩⟩
  cases he
theorem ZiF {sp : FuncId → Option (List Value → Option Value)} {hp : FuncId → Option (Array Value → St → Out)} {f : Nat} {e : Ext} (h : Zvt sp hp f = some e) : Zym f = some e ∨ (∃ g, sp f = some g ∧ e = .fn g) ∨ ∃ g, hp f = some g ∧ e = .hp g := by
  unfold Zvt at h
  split at h
  · rename_i e' he'
    injection h with h; subst h
    exact .inl he'
  · split at h
    · rename_i g hg
      injection h with h; subst h
      exact .inr (.inl ⟨g, hg, rfl⟩)
    · split at h
      · rename_i g hg
        injection h with h; subst h
        exact .inr (.inr ⟨g, hg, rfl⟩)
      · cases h
theorem Zz2 {sp : FuncId → Option (List Value → Option Value)} {hp : FuncId → Option (Array Value → St → Out)} (hsp : ZsL sp) (hhp : Zvb hp) : Fit Tryz.prog (Zvt sp hp) := by
  refine ⟨mixed, fun f fn hf => ?_, fun f g hg => ?_, fun f g hg => ?_, fun f S hS => ?_, fun f n hn => ?_, fun f kk e he => ?_⟩
  · have := List.all_eq_true.1 noGo fn (by
      obtain ⟨h, rfl⟩ := Array.getElem?_eq_some_iff.1 hf
      simp)
    simpa using this
  · rcases ZiF hg with h | ⟨g', h, hx⟩ | ⟨g', h, hx⟩
    · exact ((Zp4 h).2.2.1 g rfl).elim
    · injection hx with hx; subst hx; exact hsp f g h
    · cases hx
  · rcases ZiF hg with h | ⟨g', h, hx⟩ | ⟨g', h, hx⟩
    · exact ((Zp4 h).2.2.2.1 g rfl).elim
    · cases hx
    · injection hx with hx; subst hx; exact hhp f g h
  · rcases ZiF hS with h | ⟨g', h, hx⟩ | ⟨g', h, hx⟩
    · exact ((Zp4 h).2.2.2.2 S rfl).elim
    · cases hx
    · cases hx
  · rcases ZiF hn with h | ⟨g', h, hx⟩ | ⟨g', h, hx⟩
    · exact (Zp4 h).2.1 n rfl
    · cases hx
    · cases hx
  · rcases ZiF he with h | ⟨g', h, hx⟩ | ⟨g', h, hx⟩
    · exact (Zp4 h).1 kk e rfl
    · cases hx
    · cases hx
theorem fitW {sp : FuncId → Option (List Value → Option Value)} (hsp : ZsL sp) : Fit Tryz.prog (extW sp) := Zz2 hsp Zz1
def Zyn : FuncId → Option (List Value → Option Value) := fun _ => none
theorem Zvu : ZsL Zyn := fun f g h => by cases h
def ext1 : FuncId → Option Ext := extW Zyn
theorem fit1 : Fit Tryz.prog ext1 := fitW Zvu
noncomputable def hp0 : FuncId → Option (Array Value → St → Out) := fun f =>
  bif Nat.beq f 173 then some (ZsJ Tryz.prog ext1 20000 173) else
   none
theorem ZyN : Zvb hp0 := by
  intro f g h
  unfold hp0 at h
  cases hb : Nat.beq f 173 with
  | false => rw [hb] at h; simp at h
  | true =>
    rw [hb] at h
    obtain rfl := Nat.eq_of_beq_eq_true hb
    simp only [cond_true, Option.some.injEq] at h
    subst h
    exact Zyg fit1 Tryz.func173 rfl
noncomputable def Zyo : FuncId → Option Ext := Zvt Zyn hp0
theorem Zz3 : Fit Tryz.prog Zyo := Zz2 Zvu ZyN
noncomputable def hp1 : FuncId → Option (Array Value → St → Out) := fun f =>
  bif Nat.beq f 253 then some (ZlJ Tryz.prog Zyo 20000 253) else
  bif Nat.beq f 288 then some (ZlJ Tryz.prog Zyo 20000 288) else
  bif Nat.beq f 46 then some (ZlJ Tryz.prog Zyo 20000 46) else
   hp0 f
theorem Zyp {β : Type} {b : Bool} {x e : β} {y : Option β} (h : (bif b then some x else y) = some e) : (b = true ∧ x = e) ∨ y = some e := by
  cases b with
  | true => injection h with h; exact .inl ⟨rfl, h⟩
  | false => exact .inr h
theorem Z0m : Zvb hp1 := by
  intro f g h
  unfold hp1 at h
  rcases Zyp h with ⟨hb, rfl⟩ | h
  · obtain rfl := Nat.eq_of_beq_eq_true hb; exact Zqn Zz3 Tryz.func253 rfl
  rcases Zyp h with ⟨hb, rfl⟩ | h
  · obtain rfl := Nat.eq_of_beq_eq_true hb; exact Zqn Zz3 Tryz.func288 rfl
  rcases Zyp h with ⟨hb, rfl⟩ | h
  · obtain rfl := Nat.eq_of_beq_eq_true hb; exact Zqn Zz3 Tryz.func46 rfl
  exact ZyN f g h
noncomputable def Zyq (sp : FuncId → Option (List Value → Option Value)) : FuncId → Option Ext := Zvt sp hp1
theorem Zz4 {sp : FuncId → Option (List Value → Option Value)} (hsp : ZsL sp) : Fit Tryz.prog (Zyq sp) := Zz2 hsp Z0m
noncomputable def ext : FuncId → Option Ext := Zyq Zyn
theorem fit : Fit Tryz.prog ext := Zz4 Zvu
def ZwG (e : FuncId → Option Ext) (tc : FuncId → Bool) : FuncId → Option Ext := fun f => bif tc f then some (.tc (Zj Tryz.prog f)) else e f
theorem fitT {e : FuncId → Option Ext} {tc : FuncId → Bool} (F : Fit Tryz.prog e) (hb : ∀ f, tc f = true → ∃ (fn : Func) (c : Code), Tryz.prog.funcs[f]? = some fn ∧ fn.body = some c) : Fit Tryz.prog (ZwG e tc) := by
  have cs : ∀ {f : Nat} {x : Ext}, ZwG e tc f = some x → (tc f = true ∧ x = .tc (Zj Tryz.prog f)) ∨ e f = some x := fun {f x} h => by
    unfold ZwG at h
    cases ht : tc f with
    | true => rw [ht] at h; injection h with h; exact .inl ⟨rfl, h.symm⟩
    | false => rw [ht] at h; exact .inr h
  refine ⟨F.mixed, F.go, fun f g hg => ?_, fun f g hg => ?_, fun f S hS => ?_, fun f n hn => ?_, fun f kk x hx => ?_⟩
  · rcases cs hg with ⟨_, h⟩ | h
    · cases h
    · exact F.fn f g h
  · rcases cs hg with ⟨_, h⟩ | h
    · cases h
    · exact F.hp f g h
  · rcases cs hS with ⟨ht, h⟩ | h
    · injection h with h; subst h; exact ⟨hb f ht, fun _ _ _ _ _ _ h => h⟩
    · exact F.tc f S h
  · rcases cs hn with ⟨_, h⟩ | h
    · cases h
    · exact F.mark f n h
  · rcases cs hx with ⟨_, h⟩ | h
    · cases h
    · exact F.ext f kk x h
def out (r : Out) : Option Value := match r with
  | some (v, s) => match s.ob with
    | [] => bif ZeP v && Nat.ble s.n 1000000000 then some v else none
    | _ => none
  | none => none
theorem Zca (fu : Nat) {f : FuncId} {args : Array Value} {v : Value} (w : World) (h : out (Zeh Tryz.prog ext fu f args ⟨.nil, 0, [], ⟨[], [], [], [], []⟩, []⟩) = some v) (ha : ZS ZeP args.toList = true) : Calls Tryz.prog f args w (Ret v w) := by
  unfold out at h
  split at h
  · rename_i u s hr
    split at h
    · rename_i ho
      obtain ⟨hf, h⟩ := Zo h
      injection h with h
      subst h
      exact (Z0k fit hr (by rw [ho]; simp) (VRs.of_free ha) (Bool.and_eq_true_iff.1 hf).1 (Nat.le_of_ble_eq_true (Bool.and_eq_true_iff.1 hf).2) w).mono fun e w' ⟨h1, h2⟩ => ⟨h1, h2⟩
    · cases h
  · cases h
end Ev
end Go.Proofs.YtgpekgedjmhmeaaGreat
/- Arguments that hold no address: which cells they have. -/
namespace Go.Proofs.YtgpekgedjmhmeaaGreat
open Go.ChangeShapes Go.WideShapes Go.ChangeAt Go.RowKit
namespace Ev
section
variable {P : Program} {w : World} {r : Reach} {base : Nat}
theorem Zqo {u : TypeId} {k : IntKind} {c : Value} (hu : P.underlying u = some (.int k)) (h : Cell.okWide P w r base u c) : ∃ n, c = .int k n ∧ k.has n := by
 unfold Cell.okWide Cell.ok at h
 rw [hu] at h
 cases c <;> simp at h
 obtain ⟨rfl, h⟩ := h
 exact ⟨_, rfl, h⟩
theorem Zqp {t : TypeId} {v : Value} (hu : (match P.underlying t with | some (.struct _) | some (.array _ _) => true | _ => false) = false) (h : Value.okWide P w r base t v) : Cell.okWide P w r base t v := by
 unfold Value.okWide at h
 split at h
 ·rename_i h1; rw [h1] at hu; cases hu
 ·rename_i h1; rw [h1] at hu; cases hu
 ·exact h
def ZzJ : Nat → List (Nat × Bool) → List (Option Bool)
 | _, [] => []
 | n, (i, b) :: l => List.replicate (i - n) none ++ (some b :: ZzJ (i + 1) l)
def ZzK : Nat → List (Nat × Int) → List (Option Int)
 | _, [] => []
 | n, (i, b) :: l => List.replicate (i - n) none ++ (some b :: ZzK (i + 1) l)
def Zwf {α : Type} : Nat → List (Nat × α) → List (Option α)
 | _, [] => []
 | n, (i, b) :: l => List.replicate (i - n) none ++ (some b :: Zwf (i + 1) l)
def Zl (b : List (Nat × Bool)) (v : List (Nat × Int)) (x : List (Nat × Nat)) (l : List (Nat × List Cell)) (w : List (Nat × Zx)) : Orc := ⟨ZzJ 0 b, ZzK 0 v, Zwf 0 x, Zwf 0 l, Zwf 0 w⟩
theorem Zf : ∀ p ∈ ([] : List (Bool × Bool)), p.1 = p.2 := by simp
theorem Zb {a b : Bool} {l : List (Bool × Bool)} (h : a = b) (hl : ∀ q ∈ l, q.1 = q.2) : ∀ q ∈ (a, b) :: l, q.1 = q.2 := by
 intro q hq
 rcases List.mem_cons.1 hq with rfl | hq
 ·exact h
 ·exact hl q hq
theorem Z0n {x : Int} (h : -9223372036854775808 ≤ x ∧ x < 9223372036854775808) : IntKind.i64.wrap x = x := by
 rw [IntKind.wrap_i64]
 omega
end
end Ev
end Go.Proofs.YtgpekgedjmhmeaaGreat
/- How runs of functions with loops are written: what is looked at of a stop, and rows of numbers. -/
namespace Go.Proofs.YtgpekgedjmhmeaaGreat
open Go.RowKit
namespace Ev
/-! ### Where a loop stands -/
def Zke : List Nat → Code → List Zff → Code × List Zff
  | [], .loop a, K => (a, K)
  | 0 :: p, .seq a b, K => Zke p a (.seq b :: K)
  | 1 :: p, .seq _ b, K => Zke p b K
  | 2 :: p, .scope a, K => Zke p a (.scp :: K)
  | 3 :: p, .block i a, K => Zke p a (.blk i :: K)
  | 4 :: p, .cond _ a _, K => Zke p a K
  | 5 :: p, .cond _ _ b, K => Zke p b K
  | (n + 6) :: p, .loop a, K => Zke p a (.rnd n :: K)
  | _, _, K => (.skip, K)
def Zwg (fn : Func) : Code := match fn.body with | some c => c | none => .skip
noncomputable section
def ZwH (live : List Nat) (r : Option Stop) : Option (Value × List (Option AObj) × List (Bool × Bool)) :=
  match r with
  | some (.fin u s) => bif Nat.ble s.n 1000000000 then some (u, live.map s.h.get, s.ob) else none
  | _ => none
end
theorem Zxy {live : List Nat} {r : Option Stop} {u : Value} {bl : List (Option AObj)} {ob : List (Bool × Bool)} (h : ZwH live r = some (u, bl, ob)) : ∃ s, r = some (.fin u s) ∧ live.map s.h.get = bl ∧ s.ob = ob ∧ s.n ≤ far := by
  unfold ZwH at h
  split at h
  · rename_i u' s
    obtain ⟨hn, h⟩ := Zo h
    injection h with h
    simp only [Prod.mk.injEq] at h
    obtain ⟨rfl, rfl, rfl⟩ := h
    exact ⟨s, rfl, rfl, rfl, Nat.le_of_ble_eq_true hn⟩
  · cases h
def ZxE (ρ : Nat → Nat) : AObj → AObj → Prop
  | .ro O, .ro O' => O = O'
  | .ro O true, .ro O' true => O = O'
  | .cells c t, .cells c' t' => t = t' ∧ (∃ r, c.map (Zb0 ρ 1) = c' ++ r) ∧ ZS (ZaS 1) c = true
  | _, _ => False
def Zgy (ρ : Nat → Nat) : List (Option AObj) → List (Option AObj) → Prop
  | _, [] => True
  | some o :: bl, some p :: l => ZxE ρ o p ∧ Zgy ρ bl l
  | _ :: bl, none :: l => Zgy ρ bl l
  | _, _ => False
def Zp5 (ρ : Nat → Nat) : List (Option Value) → List (Nat × Value) → Prop
  | _, [] => True
  | some u :: tv, x :: l => (x.2 = Zb0 ρ 3 u ∧ ZaS 3 u = true) ∧ Zp5 ρ tv l
  | _, _ => False
theorem Zkf {ρ : Nat → Nat} {h : AH} : ∀ {live : List Nat} {l : List (Option AObj)}, Zgy ρ (live.map h) l → ∀ j o, lkO l j = some o → ∃ k, live[j]? = some k ∧ match o with
      | .ro O m => h k = some (.ro O m)
      | .cells c t => ∃ c' r, h k = some (.cells c' t) ∧ c'.map (Zb0 ρ 1) = c ++ r ∧ ZS (ZaS 1) c' = true
  | live, [], _, j, o, hj => by simp [lkO] at hj
  | [], x :: l, hb, j, o, hj => by cases x <;> exact hb.elim
  | k :: live, none :: l, hb, j, o, hj => by
    have hb' : Zgy ρ (live.map h) l := by
      simp only [List.map_cons] at hb
      cases hk : h k <;> rw [hk] at hb <;> exact hb
    cases j with
    | zero => simp [lkO] at hj
    | succ j => obtain ⟨k', q1, q2⟩ := Zkf hb' j o (by simpa [lkO] using hj); exact ⟨k', by simpa using q1, q2⟩
  | k :: live, some p :: l, hb, j, o, hj => by
    simp only [List.map_cons] at hb
    cases hk : h k with
    | none => rw [hk] at hb; exact hb.elim
    | some o1 =>
      rw [hk] at hb
      cases j with
      | zero =>
        have : p = o := by simpa [lkO] using hj
        subst this
        refine ⟨k, rfl, ?_⟩
        have h1 := hb.1
        cases o1 with
        | cells c1 t1 =>
          cases p with
          | cells c2 t2 => simp only [ZxE] at h1; obtain ⟨rfl, ⟨r, hr⟩, hs⟩ := h1; exact ⟨_, r, hk, hr, hs⟩
          | ro O2 m2 => cases m2 <;> exact h1.elim
        | ro O1 m1 =>
          cases p with
          | cells c2 t2 => cases m1 <;> exact h1.elim
          | ro O2 m2 =>
            cases m1 <;> cases m2
            · obtain rfl : O1 = O2 := h1; exact hk
            · exact h1.elim
            · exact h1.elim
            · obtain rfl : O1 = O2 := h1; exact hk
      | succ j => obtain ⟨k', q1, q2⟩ := Zkf hb.2 j o (by simpa [lkO] using hj); exact ⟨k', by simpa using q1, q2⟩
theorem ZwI {ρ : Nat → Nat} {T : Tr Value} : ∀ {l : List (Nat × Value)}, Zp5 ρ ((l.map (·.1)).map T.get) l → ∀ t v, ZaI t l = some v → v = Zb0 ρ 3 ((T.get t).getD undef) ∧ ZaS 3 ((T.get t).getD undef) = true
  | [], _, t, v, h => by cases h
  | x :: l, ht, t, v, h => by
    simp only [List.map_cons] at ht
    cases hx : T.get x.1 with
    | none => rw [hx] at ht; exact ht.elim
    | some u =>
      rw [hx] at ht
      unfold ZaI at h
      cases hb : Nat.beq x.1 t with
      | true =>
        rw [hb] at h
        injection h with h
        obtain rfl := Nat.eq_of_beq_eq_true hb
        subst h
        rw [hx]
        exact ht.1
      | false => rw [hb] at h; exact ZwI ht.2 t v h
section
variable {P : Program} {ext : FuncId → Option Ext}
end
/-! ### Rows of numbers -/
theorem wrap_i64 {x : Int} (h : -9223372036854775808 ≤ x ∧ x ≤ 9223372036854775807) : IntKind.i64.wrap x = x := Z0n (by omega)
theorem Za {α : Type} {a b : α} {l r : List α} (h : a = b) (t : l = r) : a :: l = b :: r := by rw [h, t]
/-! ### Rows of bools -/
/-! ### Rows of the caller's -/
end Ev
end Go.Proofs.YtgpekgedjmhmeaaGreat
/- Calls that are told, from what is known of a function. -/
namespace Go.Proofs.YtgpekgedjmhmeaaGreat
open Go.RowKit
namespace Ev
section
variable {P : Program} {ext : FuncId → Option Ext}
def preL (κ : List Nat) (n : Nat) (pre : List AObj) : List (Nat × AObj) := κ.zip (pre.map (Zql (kap κ n)))
def ZzL (κ : List Nat) (n : Nat) (ch : List Nat) (post : List (Option AObj)) : List (Nat × Option AObj) := ch.map fun j => (kap κ n j, (lkO post j).map (Zql (kap κ n)))
def ZtO (m : Nat) : List AObj → Prop
 | [] => True
 | o :: l => Zp2 m o = true ∧ ZtO m l
def Zn8 (m : Nat) : List (Option AObj) → Prop
 | [] => True
 | some o :: l => Zp2 m o = true ∧ Zn8 m l
 | none :: l => Zn8 m l
theorem ZvM {m : Nat} : ∀ {l : List AObj}, ZtO m l → ∀ o ∈ l, Zp2 m o = true
 | x :: l, h, o, ho => by
  rcases List.mem_cons.1 ho with rfl | ho
  ·exact h.1
  ·exact ZvM h.2 o ho
theorem Zqq {m : Nat} : ∀ {l : List (Option AObj)}, Zn8 m l → ∀ o, some o ∈ l → Zp2 m o = true
 | some x :: l, h, o, ho => by
  rcases List.mem_cons.1 ho with e | ho
  ·injection e with e; subst e; exact h.1
  ·exact Zqq h.2 o ho
 | none :: l, h, o, ho => by
  rcases List.mem_cons.1 ho with e | ho
  ·cases e
  ·exact Zqq (l := l) h o ho
def Zyr (ch : List Nat) : Nat → List AObj → List (Option AObj) → Prop
 | _, _, [] => True
 | j, o :: l, p :: r => (j ∈ ch ∨ p = some o) ∧ Zyr ch (j + 1) l r
 | j, [], _ :: r => j ∈ ch ∧ Zyr ch (j + 1) [] r
theorem Zvv {ch : List Nat} : ∀ {l : List AObj} {r : List (Option AObj)} {j : Nat}, Zyr ch j l r → ∀ i, i < r.length → j + i ∈ ch ∨ (i < l.length ∧ r[i]? = some l[i]?)
 | o :: l, p :: r, j, h, 0, _ => by
  rcases h.1 with h | h
  ·exact .inl h
  ·exact .inr ⟨by simp, by simp [h]⟩
 | o :: l, p :: r, j, h, i + 1, hi => by
  rcases Zvv h.2 i (by simpa using hi) with q | ⟨q1, q2⟩
  ·exact .inl (by rwa [show j + (i + 1) = j + 1 + i by omega])
  ·exact .inr ⟨by simpa using q1, by simpa using q2⟩
 | [], p :: r, j, h, 0, _ => .inl h.1
 | [], p :: r, j, h, i + 1, hi => by
  rcases Zvv h.2 i (by simpa using hi) with q | ⟨q1, q2⟩
  ·exact .inl (by rwa [show j + (i + 1) = j + 1 + i by omega])
  ·simp at q1
theorem ZwJ {α : Type} {k : Nat} {x : α} : ∀ {ks : List Nat} {l : List α} {j : Nat}, ks.Nodup → ks[j]? = some k → l[j]? = some x → ZaI k (ks.zip l) = some x
 | a :: ks, b :: l, 0, _, h1, h2 => by
  simp at h1 h2
  subst h1 h2
  simp [ZaI]
 | a :: ks, b :: l, j + 1, hn, h1, h2 => by
  have hm : k ∈ ks := List.mem_of_getElem? (by simpa using h1)
  have hne : a ≠ k := fun e => by subst e; exact (List.nodup_cons.1 hn).1 hm
  show ZaI k ((a, b) :: ks.zip l) = _
  unfold ZaI
  rw [ZjF hne]
  exact ZwJ (List.nodup_cons.1 hn).2 (by simpa using h1) (by simpa using h2)
 | [], _, j, _, h1, _ => by simp at h1
 | a :: ks, [], j, _, _, h2 => by simp at h2
theorem ZwK {f : Nat → Nat} {g : Nat → Option AObj} (hf : ∀ i j, f i = f j → i = j) (j : Nat) : ∀ ch : List Nat, ZaI (f j) (ch.map fun i => (f i, g i)) = if j ∈ ch then some (g j) else none
 | [] => rfl
 | a :: ch => by
  show ZaI (f j) ((f a, g a) :: ch.map fun i => (f i, g i)) = _
  unfold ZaI
  by_cases h : a = j
  ·subst h; rw [ZkY rfl]; simp
  ·rw [ZjF (fun e => h (hf _ _ e)), cond_false, ZwK hf j ch]
   simp [show ¬ j = a from fun e => h e.symm]
theorem LSpec.callL {f : FuncId} {A : Array Value} {pre : List AObj} {v : Value} {post : List (Option AObj)} (h : LSpec P f A pre v post) (κ : List Nat) (n : Nat) (ch : List Nat) (hκ : κ.length = pre.length) (hnd : κ.Nodup) (hlt : ∀ k ∈ κ, k < n) (hle : pre.length ≤ post.length) (hch : ∀ j ∈ ch, j < post.length)
  (hA : ZS (ZcZ pre.length 3) A.toList = true) (hpre : ZtO pre.length pre) (hv : ZcZ post.length 3 v = true) (hpost : Zn8 post.length post) (hk : Zyr ch 0 pre post)
  {A' : Array Value} {pre' : List (Nat × AObj)} {v' : Value} {post' : List (Nat × Option AObj)} {dn : Nat} (eA : A' = ZiD (Zb0 (kap κ n) 3) A) (ev : v' = Zb0 (kap κ n) 3 v) (edn : pre.length + dn = post.length) (ep : pre' = preL κ n pre) (eq : post' = ZzL κ n ch post) : Zj P f A' pre' v' post' n dn := by
 have kl : ∀ j, j < pre.length → κ[j]? = some (kap κ n j) := fun j hj => ZuX (by omega)
 have kn : ∀ j, j < pre.length → kap κ n j < n := fun j hj => hlt _ (List.mem_of_getElem? (kl j hj))
 have kg : ∀ j, pre.length ≤ j → kap κ n j = n + (j - pre.length) := fun j hj => by rw [← hκ]; exact ZyK (by omega)
 have kinj : ∀ i j, kap κ n i = kap κ n j → i = j := fun i j hij => by
  rcases Nat.lt_or_ge i pre.length with h1 | h1 <;> rcases Nat.lt_or_ge j pre.length with h2 | h2
  ·have a := kl i h1
   have b := kl j h2
   rw [hij, ← b] at a
   exact (List.getElem?_inj (by omega) hnd).1 a
  ·have := kn i h1; rw [hij, kg j h2] at this; omega
  ·have := kn j h2; rw [← hij, kg i h1] at this; omega
  ·rw [kg i h1, kg j h2] at hij; omega
 have lp : ∀ j o, pre[j]? = some o → ZaI (kap κ n j) pre' = some (Zql (kap κ n) o) := fun j o ho => by
  subst ep
  have hj : j < pre.length := (List.getElem?_eq_some_iff.1 ho).1
  exact ZwJ hnd (kl j hj) (by rw [List.getElem?_map, ho]; rfl)
 have ip : ∀ k o, ZaI k pre' = some o → ∃ j, j < pre.length ∧ k = kap κ n j := fun k o ho => by
  subst ep
  obtain ⟨j, hj1, hj2⟩ := List.getElem_of_mem (List.of_mem_zip (ZlW ho)).1
  have hj : j < pre.length := by omega
  refine ⟨j, hj, ?_⟩
  have := kl j hj
  rw [List.getElem?_eq_getElem hj1, hj2] at this
  exact Option.some.inj this
 have lq : ∀ j, ZaI (kap κ n j) post' = if j ∈ ch then some ((lkO post j).map (Zql (kap κ n))) else none := fun j => by
  subst eq
  exact ZwK (g := fun j => (lkO post j).map (Zql (kap κ n))) kinj j ch
 refine h.call κ n hκ hnd hlt hle hA (ZvM hpre) hv (Zqq hpost) eA ev edn lp ip (fun j hj => ?_) (fun k o ho => ?_)
 ·unfold behind
  rw [lq j]
  rcases Zvv hk j hj with hc | ⟨h1, h2⟩
  ·rw [Nat.zero_add] at hc
   rw [if_pos hc]
  ·by_cases hc : j ∈ ch
   ·rw [if_pos hc]
   ·rw [if_neg hc]
    have ho : pre[j]? = some pre[j] := List.getElem?_eq_getElem h1
    show ZaI (kap κ n j) pre' = _
    rw [lp j _ ho]
    simp [lkO, h2, ho]
 ·unfold behind at ho
  split at ho
  ·rename_i o' hl
   subst eq
   have := ZlW hl
   unfold ZzL at this
   obtain ⟨j, hj, he⟩ := List.mem_map.1 this
   injection he with h1 h2
   exact ⟨j, hch j hj, h1.symm⟩
  ·obtain ⟨j, hj, hk⟩ := ip k o ho
   exact ⟨j, by omega, hk⟩
end
theorem ZbX {α β : Type} {a a' : α} {b b' : β} (h : a = a') (k : b = b') : (a, b) = (a', b') := by rw [h, k]
theorem Zi2 {α : Type} {a a' : α} (h : a = a') : some a = some a' := by rw [h]
end Ev
end Go.Proofs.YtgpekgedjmhmeaaGreat
/- Functions of many loops: one behind the other, one in another. -/
namespace Go.Proofs.YtgpekgedjmhmeaaGreat
open Go.RowKit
namespace Ev
section
variable {P : Program} {ext : FuncId → Option Ext}
variable {fn : Func} {pre : List AObj} {v : Value} {po : List (Option AObj)} {X : Type} {m i : Nat} {L : X → List (Nat × Value)} {H : X → List AObj} {μ : X → Nat} {bd : X → List Nat} {Gb : List Nat → Ren → World → (Nat → Act → World → Prop) → Prop} {x : X} {c : Code} {K : List Zff} {T0 : Tr Value} {fu : Nat} {orc : Orc} {live : List Nat} {bl : List (Option AObj)} {ob : List (Bool × Bool)}
end
/-! ### A law -/
def ιRo (bs : List Nat) : Ren := fun k => (bs[k]?).map fun b => (b, 0)
theorem ZyO {P : Program} {f : FuncId} {A : Array Value} {pre : List AObj} {post : List (Option AObj)} {v : Value} (h : LSpec P f A pre v post) {w : World} {args' : Array Value} (bs : List Nat) (hl : bs.length = pre.length) (hro : ∀ (j : Nat) (o : AObj), pre[j]? = some o → ∃ (O : Obj) (b : Nat), o = AObj.ro O ∧ bs[j]? = some b ∧ w.heap[b]? = some O) (ha : VRs (ιRo bs) A args') (hv : ZeP v = true) : Calls P f args' w (Ret v w) := by
 have hdom : ∀ k, ιRo bs k ≠ none → k < pre.length := fun k hk => by
  unfold ιRo at hk
  rcases Nat.lt_or_ge k bs.length with h | h
  ·omega
  ·rw [List.getElem?_eq_none h] at hk; exact absurd rfl hk
 have hC : ∀ k, isC (lk pre k) = false := fun k => by
  unfold lk
  cases hk : pre[k]? with
  | none => rfl
  | some o => obtain ⟨O, b, rfl, _⟩ := hro k o hk; rfl
 have he : Emb P (ιRo bs) (lk pre) w := by
  refine ⟨fun k c t hk => ?_, fun k O hk => ?_, fun k k' b1 b2 h1 => ?_, fun k b1 hk => ?_⟩
  ·obtain ⟨O, b, h1, _⟩ := hro k _ hk; cases h1
  ·obtain ⟨O', b, h1, h2, h3⟩ := hro k _ hk
   injection h1 with h1 h4; subst h1 h4
   exact ⟨(b, 0), by simp [ιRo, h2], h3⟩
  ·rw [hC k] at h1; cases h1
  ·have hlt := hdom k (by rw [hk]; simp)
   obtain ⟨O, b, _, h2, h3⟩ := hro k _ (List.getElem?_eq_getElem hlt)
   simp [ιRo, h2] at hk
   rw [← hk]
   exact (Array.getElem?_eq_some_iff.1 h3).1
 refine (h (ιRo bs) w args' hdom ha he).mono ?_
 rintro e w' ⟨v', ι', rfl, hS, _, hvr⟩
 have := hvr.eq_of_free hv
 subst this
 exact ⟨rfl, hS.os, hS.tape, hS.output, hS.size, fun b hb => hS.frame b hb fun k c hk => by rw [hC k] at hk; cases hk⟩
end Ev
end Go.Proofs.YtgpekgedjmhmeaaGreat
/- Arguments that are slices of structs of ints, opened, over any program. -/
namespace Go.Proofs.YtgpekgedjmhmeaaGreat
open Go.ChangeShapes Go.WideShapes Go.ChangeAt Go.RowKit Go.Deep
section
variable {H : Type} {enc : TypeId × Value → H} {P : Program} {w : World}

end
end Go.Proofs.YtgpekgedjmhmeaaGreat
/- Arguments that are rows of numbers: blocks of the caller's, that are read alone. -/
namespace Go.Proofs.YtgpekgedjmhmeaaGreat
open Go.ChangeShapes Go.WideShapes Go.ChangeAt Go.RowKit
namespace Ev
section
variable {P : Program} {w : World}
end
end Ev
end Go.Proofs.YtgpekgedjmhmeaaGreat
/- Arguments that are slices, opened: the block they lie in, and each element as what is read of it. -/
namespace Go.Proofs.YtgpekgedjmhmeaaGreat
open Go.ChangeShapes Go.WideShapes Go.ChangeAt Go.RowKit Go.Deep
namespace Ev
section
variable {H : Type} {enc : TypeId × Value → H} {P : Program} {w : World}
theorem ZxF {w : World} : ∀ (j : Nat) (o : AObj), ([] : List AObj)[j]? = some o → ∃ (O : Obj) (b : Nat), o = AObj.ro O ∧ ([] : List Nat)[j]? = some b ∧ w.heap[b]? = some O := fun j o h => by simp at h
end
end Ev
end Go.Proofs.YtgpekgedjmhmeaaGreat
/- Paths of a law, by the runner. -/
namespace Go.Proofs.YtgpekgedjmhmeaaGreat
open Go.ChangeShapes Go.WideShapes Go.ChangeAt Go.RowKit
namespace Ev
set_option maxRecDepth 100000
namespace TreePrograms
theorem Zcx {a b : Bool} (h : a = true) (k : b = true) : (a && b) = true := by rw [h, k]; rfl
theorem jl0 : ((Rows.treeProgramsRow).wf (OpenSpec.ofChange (Rows.treeProgramsSpec))) = true := by kernel_rfl
theorem jl1 : (laidOutB (Tryz.pinned.checked.prog)) = true := by kernel_rfl
theorem jl2 : (mapsRowed (Tryz.pinned.checked.prog)) = true := by kernel_rfl
theorem jl3 : ((Tryz.f3).params.all ((Tryz.pinned.checked.prog).readableRec ·)) = true := by kernel_rfl
theorem jl4 : (namedTie (Tryz.pinned.checked.prog) (Rows.treeProgramsRow).named (Rows.treeProgramsSpec).vars) = true := by kernel_rfl
theorem jl5 : (((Rows.treeProgramsRow).stops == [])) = true := by kernel_rfl
theorem jl6 : (((Tryz.pinned.checked.prog).stops == [])) = true := by kernel_rfl
theorem jl7 : (((Rows.treeProgramsRow).knobs == [])) = true := by kernel_rfl
theorem jl8 : (((Tryz.pinned.checked.prog).stopKnobs == [])) = true := by kernel_rfl
theorem jl9 : (((Rows.treeProgramsRow).inPlace == (Tryz.pinned.checked.prog).inPlace 3)) = true := by kernel_rfl
theorem jl10 : (((Rows.treeProgramsRow).unfollowed == (Tryz.pinned.checked.prog).unfollowed 3)) = true := by kernel_rfl
theorem jl11 : (((Rows.treeProgramsRow).recurses == (Tryz.pinned.checked.prog).recurses 3)) = true := by kernel_rfl
theorem jl12 : (((Rows.treeProgramsRow).named == (Tryz.pinned.checked.prog).varsNamed 3)) = true := by kernel_rfl
theorem jl13 : (((Rows.treeProgramsRow).maps == ((Tryz.f3).params.toList ++ (Rows.treeProgramsSpec).plain.varTypes (Tryz.pinned.checked.prog)).any ((Tryz.pinned.checked.prog).mapsRec ·))) = true := by kernel_rfl
theorem jl14 : (((Rows.treeProgramsRow).ifaces == ((Tryz.f3).params.toList ++ (Rows.treeProgramsSpec).plain.varTypes (Tryz.pinned.checked.prog)).any ((Tryz.pinned.checked.prog).ifacesRec ·))) = true := by kernel_rfl
theorem jl15 : (((Rows.treeProgramsRow).mapsOut == (Tryz.pinned.checked.prog).mapsAmong (Tryz.f3).resultTypes.toList)) = true := by kernel_rfl
theorem jl16 : (((Rows.treeProgramsRow).loops == ((Tryz.f3).params.toList ++ (Rows.treeProgramsSpec).plain.varTypes (Tryz.pinned.checked.prog)).any ((Tryz.pinned.checked.prog).loopsFrom ·))) = true := by kernel_rfl
theorem jl17 : (((Rows.treeProgramsRow).wideKeys == ((Tryz.f3).params.toList ++ (Rows.treeProgramsSpec).plain.varTypes (Tryz.pinned.checked.prog) ++ (Tryz.f3).resultTypes.toList).any ((Tryz.pinned.checked.prog).wideKeysFrom ·))) = true := by kernel_rfl
theorem jl18 : ((Rows.treeProgramsSpec).vars.all ((Tryz.pinned.checked.prog).varReadable ·)) = true := by kernel_rfl
theorem jl19 : ((Tryz.f3).resultTypes.all (fun tt => (Tryz.pinned.checked.prog).readableRec tt && decide (tt < (Tryz.pinned.checked.prog).types.size))) = true := by kernel_rfl
theorem jl20 : (((Rows.treeProgramsRow).ifacesOut == (Tryz.f3).resultTypes.toList.any ((Tryz.pinned.checked.prog).ifacesRec ·))) = true := by kernel_rfl
theorem jl21 : (((Rows.treeProgramsRow).loopsOut == (Tryz.f3).resultTypes.toList.any ((Tryz.pinned.checked.prog).loopsFrom ·))) = true := by kernel_rfl
theorem jl22 : (((Rows.treeProgramsRow).plainKeys == (Tryz.pinned.checked.prog).plainKeys)) = true := by kernel_rfl
theorem jl23 : ((Rows.treeProgramsRow).shortTexts.isNone) = true := by kernel_rfl
theorem jl24 : ((Tryz.pinned.checked.prog).stopsHeard) = true := by kernel_rfl
theorem jl25 : ((Tryz.pinned.checked.prog).mayEnter) = true := by kernel_rfl
theorem jl26 : (((Rows.treeProgramsRow).lifted == (Tryz.pinned.checked.prog).liftsFinal)) = true := by kernel_rfl
theorem jl27 : (((Tryz.pinned.checked.prog).make == some (Rows.treeProgramsRow).make)) = true := by kernel_rfl
theorem jl28 : (((Rows.treeProgramsRow).kinds == (if (Rows.treeProgramsRow).domain.isEmpty then [] else (Tryz.f3).params.toList.map fun tt => match (Tryz.pinned.checked.prog).underlying tt with | some (.int k) => some k | _ => none))) = true := by kernel_rfl
theorem jl29 : (((Rows.treeProgramsRow).pinned == (Rows.treeProgramsRow).pinnedBy)) = true := by kernel_rfl
theorem jl30 : (((Rows.treeProgramsRow).veiled == ((Tryz.f3).params.toList ++ (Rows.treeProgramsSpec).plain.varTypes (Tryz.pinned.checked.prog) ++ (Tryz.f3).resultTypes.toList).any ((Tryz.pinned.checked.prog).veiledRec ·))) = true := by kernel_rfl
theorem jl31 : ((Rows.treeProgramsRow).veiledFits (Tryz.pinned.checked.prog) (Tryz.f3).params.toList ((Tryz.f3).params.toList ++ (Rows.treeProgramsSpec).plain.varTypes (Tryz.pinned.checked.prog) ++ (Tryz.f3).resultTypes.toList)) = true := by kernel_rfl
theorem ZyP : joinedFacts Tryz.pinned.checked.prog 3 Tryz.f3 Rows.treeProgramsSpec Rows.treeProgramsRow = true := (Zcx (Zcx (Zcx (Zcx (Zcx (Zcx (Zcx (Zcx (Zcx (Zcx (Zcx (Zcx (Zcx (Zcx (Zcx (Zcx (Zcx (Zcx (Zcx (Zcx (Zcx (Zcx (Zcx (Zcx (Zcx (Zcx (Zcx (Zcx (Zcx (Zcx (Zcx jl0 jl1) jl2) jl3) jl4) jl5) jl6) jl7) jl8) jl9) jl10) jl11) jl12) jl13) jl14) jl15) jl16) jl17) jl18) jl19) jl20) jl21) jl22) jl23) jl24) jl25) jl26) jl27) jl28) jl29) jl30) jl31)
end TreePrograms
end Ev
end Go.Proofs.YtgpekgedjmhmeaaGreat
/- The runner, with places to stop at: where a way on of a given depth begins, so many of them left out. -/
namespace Go.Proofs.YtgpekgedjmhmeaaGreat
open Go.RowKit
namespace Ev
inductive StopC where
 | fin (v : Value) (s : St)
 | head (a : Code) (K : List Zff) (T : Tr Value) (s : St)
 | next (i : Nat) (T : Tr Value) (s : St)
 | cut (b : Code) (K : List Zff) (T : Tr Value) (s : St)
noncomputable section
def StopC.s : StopC → St
 | .fin _ s => s
 | .head _ _ _ s => s
 | .next _ _ s => s
 | .cut _ _ _ s => s
def ZwL (s : St) : Option Value → Option StopC
 | some v => some (.fin v s)
 | none => none
def ZyQ (P : Program) (fn : Func) (e : Ex) (T : Tr Value) (s : St) : Option StopC :=
 match e with
 | .exit _ => none
 | .normal => ZwL s (Zyi P fn T s)
 | .ret => ZwL s (Zyi P fn T s)
mutual
def ZfF (P : Program) (ext : FuncId → Option Ext) (fn : Func) (nt : Nat) (cd : Nat) : Nat → Nat → Code → List Zff → Tr Value → St → Option StopC
 | 0, _, _, _, _, _ => none
 | fu + 1, cm, c, K, T, s => match c with
  | .seq a b => ZfF P ext fn nt cd fu cm a (.seq b :: K) T s
  | .scope a => ZfF P ext fn nt cd fu cm a (.scp :: K) T s
  | .block id a => ZfF P ext fn nt cd fu cm a (.blk id :: K) T s
  | .cond x a b => match opnd T x with
   | .bool t => match t with
    | true => ZfF P ext fn nt cd fu cm a K T s
    | false => ZfF P ext fn nt cd fu cm b K T s
   | _ => none
  | .loop a => some (.head a K T s)
  | c => match Zah P ext nt fu c T s with
   | some (e, T', s') => Zda P ext fn nt cd fu cm K e T' s'
   | none => none
termination_by structural fu _ _ _ _ _ => fu
def Zda (P : Program) (ext : FuncId → Option Ext) (fn : Func) (nt : Nat) (cd : Nat) : Nat → Nat → List Zff → Ex → Tr Value → St → Option StopC
 | 0, _, _, _, _, _ => none
 | fu + 1, cm, K, e, T, s => match K with
  | [] => ZyQ P fn e T s
  | .seq b :: K => match e with
   | .normal => match Nat.beq K.length cd with
    | false => ZfF P ext fn nt cd fu cm b K T s
    | true => match cm with
     | 0 => some (.cut b K T s)
     | m + 1 => ZfF P ext fn nt cd fu m b K T s
   | .exit i => Zda P ext fn nt cd fu cm K (.exit i) T s
   | .ret => Zda P ext fn nt cd fu cm K .ret T s
  | .blk id :: K => match e with
   | .exit i => bif Nat.beq i id then Zda P ext fn nt cd fu cm K .normal T s else Zda P ext fn nt cd fu cm K (.exit i) T s
   | .normal => Zda P ext fn nt cd fu cm K .normal T s
   | .ret => Zda P ext fn nt cd fu cm K .ret T s
  | .scp :: K => Zda P ext fn nt cd fu cm K e T s
  | .rnd i :: K => match e with
   | .normal => some (.next i T s)
   | .exit j => Zda P ext fn nt cd fu cm K (.exit j) T s
   | .ret => Zda P ext fn nt cd fu cm K .ret T s
termination_by structural fu _ _ _ _ _ => fu
end
end
section
variable {P : Program} {ext : FuncId → Option Ext}
theorem ZwM {s : St} {o : Option Value} {st : StopC} (h : ZwL s o = some st) : ∃ v, st = .fin v s ∧ o = some v := by
 cases o with
 | none => cases h
 | some v => injection h with h; exact ⟨v, h.symm, rfl⟩
theorem ZwN {fn : Func} {e : Ex} {T : Tr Value} {s : St} {st : StopC} (h : ZyQ P fn e T s = some st) : ∃ v, st = .fin v s ∧ (match e with | .exit _ => False | _ => True) ∧ (match ZbY P T s fn.results.toList with | some [v] => some v | some vs => some (.tuple vs.toArray) | none => none) = some v := by
 cases e with
 | exit i => cases h
 | normal => obtain ⟨v, h1, h2⟩ := ZwM h; exact ⟨v, h1, trivial, h2⟩
 | ret => obtain ⟨v, h1, h2⟩ := ZwM h; exact ⟨v, h1, trivial, h2⟩
theorem Z0o (F : Fit P ext) {fn : Func} {nt cd : Nat} : ∀ fu : Nat, (∀ cm c K T s st, ZfF P ext fn nt cd fu cm c K T s = some st → Up s st.s) ∧ (∀ cm K e T s st, Zda P ext fn nt cd fu cm K e T s = some st → Up s st.s) := by
 intro fu
 induction fu with
 | zero => exact ⟨fun _ _ _ _ _ _ h => by simp [ZfF] at h, fun _ _ _ _ _ _ h => by simp [Zda] at h⟩
 | succ fu ih =>
  obtain ⟨ihT, ihB⟩ := ih
  have other : ∀ cm c K T s st, (match Zah P ext nt fu c T s with | some (e, T', s') => Zda P ext fn nt cd fu cm K e T' s' | none => none) = some st → Up s st.s := fun cm c K T s st h => by
   split at h
   ·exact ((ZeN (P := P) (ext := ext) (fun f g hg => (F.hp f g hg).up) fu).1 _ _ _ _ _ _ _ (by assumption)).trans (ihB _ _ _ _ _ _ h)
   ·cases h
  refine ⟨fun cm c K T s st h => ?_, fun cm K e T s st h => ?_⟩
  ·cases c <;> simp only [ZfF] at h
   case seq a b => exact ihT _ _ _ _ _ _ h
   case scope a => exact ihT _ _ _ _ _ _ h
   case block id a => exact ihT _ _ _ _ _ _ h
   case cond x a b =>
    split at h
    ·split at h
     ·exact ihT _ _ _ _ _ _ h
     ·exact ihT _ _ _ _ _ _ h
    ·cases h
   case loop a => injection h with h; subst h; exact Up.refl _
   all_goals exact other _ _ _ _ _ _ h
  ·cases K with
   | nil => simp only [Zda] at h; obtain ⟨v, rfl, _⟩ := ZwN h; exact Up.refl _
   | cons k K =>
    cases k <;> simp only [Zda] at h
    ·cases e <;> simp only at h
     ·split at h
      ·exact ihT _ _ _ _ _ _ h
      ·split at h
       ·injection h with h; subst h; exact Up.refl _
       ·exact ihT _ _ _ _ _ _ h
     ·exact ihB _ _ _ _ _ _ h
     ·exact ihB _ _ _ _ _ _ h
    ·cases e <;> simp only at h
     ·exact ihB _ _ _ _ _ _ h
     ·rename_i id i
      cases hb : Nat.beq i id <;> rw [hb] at h <;> exact ihB _ _ _ _ _ _ h
     ·exact ihB _ _ _ _ _ _ h
    ·exact ihB _ _ _ _ _ _ h
    ·cases e <;> simp only at h
     ·injection h with h; subst h; exact Up.refl _
     ·exact ihB _ _ _ _ _ _ h
     ·exact ihB _ _ _ _ _ _ h
def Zsg (P : Program) (fn : Func) (R : Ending → World → Prop) (Nx : Nat → Act → World → Prop) (nt : Nat) (ι : Ren) (a : Act) (w : World) : StopC → Prop
 | .fin v _ => ∀ v', VR ι v v' → R (.returned v') w
 | .head b K T _ => TR ι nt [] T a → (Code.loop b).wp P (post P fn R Nx K) a w
 | .next i T _ => TR ι nt [] T a → Nx i a w
 | .cut b K T _ => TR ι nt [] T a → b.wp P (post P fn R Nx K) a w
theorem ZvN (F : Fit P ext) {fn : Func} {nt cd : Nat} {R : Ending → World → Prop} {Nx : Nat → Act → World → Prop} : ∀ fu : Nat,
  (∀ cm c K T s st, ZfF P ext fn nt cd fu cm c K T s = some st → (∀ p ∈ st.s.ob, p.1 = p.2) → ∀ ι a w, TR ι nt [] T a → Emb P ι s.h.get w → Fresh ι s.n st.s.n →
   (∀ ι' a' w', Step P ι s.h.get w ι' st.s.h.get w' → Dom ι ι' s.n st.s.n → Zsg P fn R Nx nt ι' a' w' st) → c.wp P (post P fn R Nx K) a w) ∧
  (∀ cm K e T s st, Zda P ext fn nt cd fu cm K e T s = some st → (∀ p ∈ st.s.ob, p.1 = p.2) → ∀ ι a w, TR ι nt [] T a → Emb P ι s.h.get w → Fresh ι s.n st.s.n →
   (∀ ι' a' w', Step P ι s.h.get w ι' st.s.h.get w' → Dom ι ι' s.n st.s.n → Zsg P fn R Nx nt ι' a' w' st) → post P fn R Nx K e.out a w) := by
 intro fu
 induction fu with
 | zero => exact ⟨fun _ _ _ _ _ _ h => by simp [ZfF] at h, fun _ _ _ _ _ _ h => by simp [Zda] at h⟩
 | succ fu ih =>
  obtain ⟨ihT, ihB⟩ := ih
  have other : ∀ cm c K T s st, (match Zah P ext nt fu c T s with | some (e, T', s') => Zda P ext fn nt cd fu cm K e T' s' | none => none) = some st → (∀ p ∈ st.s.ob, p.1 = p.2) → ∀ ι a w, TR ι nt [] T a → Emb P ι s.h.get w → Fresh ι s.n st.s.n →
   (∀ ι' a' w', Step P ι s.h.get w ι' st.s.h.get w' → Dom ι ι' s.n st.s.n → Zsg P fn R Nx nt ι' a' w' st) → c.wp P (post P fn R Nx K) a w := fun cm c K T s st h ho ι a w hT he hf hQ => by
   split at h
   ·rename_i e T1 s1 h1
    have u1 := (ZeN (P := P) (ext := ext) (fun f g hg => (F.hp f g hg).up) fu).1 _ _ _ _ _ _ _ h1
    have u2 := (Z0o F (fn := fn) (nt := nt) fu).2 _ _ _ _ _ _ h
    refine wp_mono (ev_wp F h1 (ZaY u2.ob ho) hT he (hf.mono (Nat.le_refl _) u2.n)) ?_
    rintro ex a1 w1 ⟨rfl, ι1, g1, g2, g3⟩
    exact ihB _ K e T1 s1 st h ho ι1 a1 w1 g3 g1.emb (hf.after g2 u1.n) fun ι' a' w' k1 k2 => hQ ι' a' w' (g1.trans k1) (g2.trans k2 u1.n u2.n)
   ·cases h
  refine ⟨fun cm c K T s st h ho ι a w hT he hf hQ => ?_, fun cm K e T s st h ho ι a w hT he hf hQ => ?_⟩
  ·have h0 := h
   cases c <;> simp only [ZfF] at h
   case seq x y => exact wp_seq (ihT _ x (.seq y :: K) T s st h ho ι a w hT he hf hQ)
   case scope x => exact wp_scope_straight (ihT _ x (.scp :: K) T s st h ho ι a w hT he hf hQ)
   case block id x => exact wp_block (ihT _ x (.blk id :: K) T s st h ho ι a w hT he hf hQ)
   case cond x y z =>
    split at h
    ·rename_i t ht
     have hx : a.eval x = .bool t := Zhs ((ht ▸ hT.opnd x : VR ι (.bool t) (ZcY a x)).bool_inv)
     split at h
     ·exact wp_cond_true hx (ihT _ y K T s st h ho ι a w hT he hf hQ)
     ·exact wp_cond_false hx (ihT _ z K T s st h ho ι a w hT he hf hQ)
    ·cases h
   case loop x =>
    injection h with h
    subst h
    exact hQ ι a w (Step.refl he) Dom.refl hT
   all_goals exact other _ _ K T s st h ho ι a w hT he hf hQ
  ·cases K with
   | nil =>
    simp only [Zda] at h
    obtain ⟨v, rfl, hne, hr⟩ := ZwN h
    obtain ⟨v', hrun, hv⟩ := ZfR hT he hr
    have := hQ ι a w (Step.refl he) Dom.refl v' hv
    cases e with
    | normal => exact ⟨hT.2.1, v', hrun, this⟩
    | ret => exact ⟨hT.2.1, v', hrun, this⟩
    | exit i => exact hne.elim
   | cons k K =>
    cases k with
    | seq b =>
     simp only [Zda] at h
     cases e with
     | normal =>
      simp only at h
      split at h
      ·exact ihT _ b K T s st h ho ι a w hT he hf hQ
      ·split at h
       ·injection h with h
        subst h
        exact hQ ι a w (Step.refl he) Dom.refl hT
       ·exact ihT _ b K T s st h ho ι a w hT he hf hQ
     | exit i => exact ihB _ K (.exit i) T s st h ho ι a w hT he hf hQ
     | ret => exact ihB _ K .ret T s st h ho ι a w hT he hf hQ
    | blk id =>
     simp only [Zda] at h
     cases e with
     | normal => exact ihB _ K .normal T s st h ho ι a w hT he hf hQ
     | ret => exact ihB _ K .ret T s st h ho ι a w hT he hf hQ
     | exit i =>
      simp only at h
      show if i = id then _ else _
      cases hb : Nat.beq i id with
      | true =>
       rw [hb] at h
       rw [if_pos (Nat.eq_of_beq_eq_true hb)]
       exact ihB _ K .normal T s st h ho ι a w hT he hf hQ
      | false =>
       rw [hb] at h
       rw [if_neg (fun e => by rw [ZkY e] at hb; cases hb)]
       exact ihB _ K (.exit i) T s st h ho ι a w hT he hf hQ
    | scp =>
     simp only [Zda] at h
     have := ihB _ K e T s st h ho ι a w hT he hf hQ
     cases e <;> exact this
    | rnd i =>
     simp only [Zda] at h
     cases e with
     | normal =>
      injection h with h
      subst h
      exact hQ ι a w (Step.refl he) Dom.refl hT
     | exit j => exact ihB _ K (.exit j) T s st h ho ι a w hT he hf hQ
     | ret => exact ihB _ K .ret T s st h ho ι a w hT he hf hQ
end
noncomputable section
def Zvw (live : List Nat) (r : Option StopC) : Option (Value × List (Option AObj) × List (Bool × Bool)) :=
 match r with
 | some (.fin u s) => bif Nat.ble s.n 1000000000 then some (u, live.map s.h.get, s.ob) else none
 | _ => none
def ZtP (i : Nat) (live temps : List Nat) (r : Option StopC) : Option (List (Option Value) × List (Option AObj) × List (Bool × Bool)) :=
 match r with
 | some (.next j T s) => bif Nat.beq j i && Nat.ble s.n 1000000000 then some (temps.map T.get, live.map s.h.get, s.ob) else none
 | _ => none
def ZtQ (live temps : List Nat) (r : Option StopC) : Option ((Code × List Zff) × List (Option Value) × List (Option AObj) × List (Bool × Bool)) :=
 match r with
 | some (.head b K T s) => bif Nat.ble s.n 1000000000 then some ((b, K), temps.map T.get, live.map s.h.get, s.ob) else none
 | _ => none
end
theorem ZwO {live : List Nat} {r : Option StopC} {u : Value} {bl : List (Option AObj)} {ob : List (Bool × Bool)} (h : Zvw live r = some (u, bl, ob)) : ∃ s, r = some (.fin u s) ∧ live.map s.h.get = bl ∧ s.ob = ob ∧ s.n ≤ far := by
 unfold Zvw at h
 split at h
 ·rename_i u' s
  obtain ⟨hn, h⟩ := Zo h
  injection h with h
  simp only [Prod.mk.injEq] at h
  obtain ⟨rfl, rfl, rfl⟩ := h
  exact ⟨s, rfl, rfl, rfl, Nat.le_of_ble_eq_true hn⟩
 ·cases h
theorem ZvW {i : Nat} {live temps : List Nat} {r : Option StopC} {tv : List (Option Value)} {bl : List (Option AObj)} {ob : List (Bool × Bool)} (h : ZtP i live temps r = some (tv, bl, ob)) : ∃ T s, r = some (.next i T s) ∧ temps.map T.get = tv ∧ live.map s.h.get = bl ∧ s.ob = ob ∧ s.n ≤ far := by
 unfold ZtP at h
 split at h
 ·rename_i j T s
  obtain ⟨hn, h⟩ := Zo h
  simp only [Bool.and_eq_true] at hn
  injection h with h
  simp only [Prod.mk.injEq] at h
  obtain ⟨rfl, rfl, rfl⟩ := h
  exact ⟨T, s, by rw [Nat.eq_of_beq_eq_true hn.1], rfl, rfl, rfl, Nat.le_of_ble_eq_true hn.2⟩
 ·cases h
theorem ZvX {live temps : List Nat} {r : Option StopC} {bK : Code × List Zff} {tv : List (Option Value)} {bl : List (Option AObj)} {ob : List (Bool × Bool)} (h : ZtQ live temps r = some (bK, tv, bl, ob)) : ∃ T s, r = some (.head bK.1 bK.2 T s) ∧ temps.map T.get = tv ∧ live.map s.h.get = bl ∧ s.ob = ob ∧ s.n ≤ far := by
 unfold ZtQ at h
 split at h
 ·rename_i b K T s
  obtain ⟨hn, h⟩ := Zo h
  injection h with h
  simp only [Prod.mk.injEq] at h
  obtain ⟨rfl, rfl, rfl, rfl⟩ := h
  exact ⟨T, s, rfl, rfl, rfl, rfl, Nat.le_of_ble_eq_true hn⟩
 ·cases h
section
variable {P : Program} {ext : FuncId → Option Ext}
theorem ZyR (F : Fit P ext) {f : FuncId} {fn : Func} {c : Code} (hfn : P.funcs[f]? = some fn) (hb : fn.body = some c) {A : Array Value} {pre : List AObj} {v : Value} {post : List (Option AObj)} (hA : Nat.ble A.size fn.ntmps = true) {fu : Nat} {orc : Orc} {cd cm : Nat} {st : StopC}
  (hev : ZfF P ext fn fn.ntmps cd fu cm c [] (Zhp 0 A.toList .nil) ⟨ZiE 0 pre, pre.length, [], orc, []⟩ = some st) (ho : ∀ p ∈ st.s.ob, p.1 = p.2) (hn : st.s.n ≤ far)
  (hto : ∀ ι0 w0, (∀ k, ι0 k ≠ none → k < pre.length) → ∀ ι' a' w', Step P ι0 (lk pre) w0 ι' st.s.h.get w' → Zsg P fn (Fin P ι0 pre w0 v post) (fun _ _ _ => False) fn.ntmps ι' a' w' st) : LSpec P f A pre v post := by
 intro ι w args' hd ha he
 refine calls_of_wp hfn hb ?_
 have := (ZvN F (R := Fin P ι pre w v post) (Nx := fun _ _ _ => False) fu).1 cm c [] _ _ st hev ho ι _ w (ZlE ha (Nat.le_of_ble_eq_true hA)) (by show Emb P ι (ZiE 0 pre).get w; rw [Zqk]; exact he)
  ⟨hn, fun k h1 _ => by
   cases hk : ι k with
   | none => rfl
   | some b => exact absurd (hd k (by rw [hk]; simp)) (by have : pre.length ≤ k := h1; omega)⟩
  (fun ι' a' w' g1 _ => hto ι w hd ι' a' w' (by have := g1; simp only [Zqk] at this; exact this))
 exact this
end
end Ev
end Go.Proofs.YtgpekgedjmhmeaaGreat
/- Functions of loops as machines: states at loops' heads, and a step from each to the next one. -/
namespace Go.Proofs.YtgpekgedjmhmeaaGreat
open Go.RowKit
namespace Ev
def ZZ : List Zff → List Nat
 | [] => []
 | .rnd i :: K => i :: ZZ K
 | .seq _ :: K => ZZ K
 | .blk _ :: K => ZZ K
 | .scp :: K => ZZ K
def Zqr {X R : Type} (step : X → Option (X ⊕ R)) : Nat → X → Option R
 | 0, _ => none
 | n + 1, x => match step x with
  | none => none
  | some (.inl y) => Zqr step n y
  | some (.inr r) => some r
def goM {X R : Type} (step : X → Option (X ⊕ R)) (n : Nat) (o : Option (X ⊕ R)) : Option R :=
 match o with
 | none => none
 | some (.inl y) => Zqr step n y
 | some (.inr r) => some r
theorem Zg (n : Nat) (h : Nat.ble n 1000000000 = true) : n ≤ far := Nat.le_of_ble_eq_true h
theorem ZvO {P : Program} {c : Code} {Q : Exit → Act → World → Prop} : ∀ (n m : Nat), n ≤ m → ∀ a w, Code.rounds P c Q n a w → Code.rounds P c Q m a w
 | 0, _, _, _, _, h => h.elim
 | n + 1, 0, hm, _, _, _ => by omega
 | n + 1, m + 1, hm, a, w, h => by
  rw [rounds_succ] at h ⊢
  refine wp_mono h ?_
  intro e a' w' h'
  cases e with
  | normal => exact ZvO n m (by omega) a' w' h'
  | exit i => exact h'
  | goto l => exact h'
  | ret => exact h'
  | panic ch => exact h'
  | outgrown => exact h'
theorem ZhL {P : Program} {fn : Func} {R : Ending → World → Prop} {Nx Nx' : Nat → Act → World → Prop} : ∀ {K : List Zff}, (∀ j ∈ ZZ K, Nx' j = Nx j) → post P fn R Nx' K = post P fn R Nx K
 | [], _ => rfl
 | .seq b :: K, h => by simp only [post]; rw [ZhL (K := K) h]
 | .blk id :: K, h => by simp only [post]; rw [ZhL (K := K) h]
 | .scp :: K, h => by simp only [post]; rw [ZhL (K := K) h]
 | .rnd j :: K, h => by
  simp only [post]
  rw [ZhL (K := K) fun j hj => h j (List.mem_cons_of_mem _ hj), h j (List.mem_cons_self ..)]
noncomputable def ZjS : Nat → List (Option AObj) → Tr AObj
 | _, [] => .nil
 | i, none :: l => ZjS (i + 1) l
 | i, some o :: l => (ZjS (i + 1) l).set i (some o)
theorem Zsh : ∀ (l : List (Option AObj)) (i k : Nat), (ZjS i l).get k = if i ≤ k then (l[k - i]?).join else none
 | [], i, k => by
  show (Tr.nil : Tr AObj).get k = _
  rw [Tr.get_nil]
  split <;> simp
 | none :: l, i, k => by
  show (ZjS (i + 1) l).get k = _
  rw [Zsh l (i + 1) k]
  by_cases h : i + 1 ≤ k
  ·rw [if_pos h, if_pos (by omega)]
   have : k - i = (k - (i + 1)) + 1 := by omega
   rw [this, List.getElem?_cons_succ]
  ·rw [if_neg h]
   by_cases hk : i ≤ k
   ·rw [if_pos hk, show k - i = 0 by omega]; rfl
   ·rw [if_neg hk]
 | some o :: l, i, k => by
  show ((ZjS (i + 1) l).set i (some o)).get k = _
  rw [Tr.get_set]
  by_cases hk : k = i
  ·subst hk; rw [Zy, if_pos (Nat.le_refl _)]; simp
  ·rw [Zn hk, Zsh l (i + 1) k]
   by_cases h : i + 1 ≤ k
   ·rw [if_pos h, if_pos (by omega)]
    have : k - i = (k - (i + 1)) + 1 := by omega
    rw [this, List.getElem?_cons_succ]
   ·rw [if_neg h, if_neg (by omega)]
theorem Zz5 (l : List (Option AObj)) : (ZjS 0 l).get = lkO l := funext fun k => by rw [Zsh]; simp [lkO]
theorem ZwP {nt m : Nat} {lt : List (Nat × Value)} {H : List (Option AObj)} {T : Tr Value} {s : St} {live : List Nat} (hl : live.length = m) (hn : live.Nodup) (ht : Zp5 (rho live far) ((lt.map (·.1)).map T.get) lt) (hb : Zgy (rho live far) (live.map s.h.get) H) : Zzx nt m (fun t => ZaI t lt) (ZjS 0 H) T s live := by
 refine ⟨hl, hn, fun t v _ h => ZwI ht t v h, fun j o ho => ?_⟩
 rw [Zz5] at ho
 exact Zkf hb j o ho
structure Mach where
 fn : Func
 pre : List AObj
 X : Type
 R : Type
 step : X → Option (X ⊕ R)
 hd : X → Nat
 code : Nat → Code × List Zff
 isL : Nat → Bool
 L : X → List (Nat × Value)
 H : X → List (Option AObj)
 V : R → Value
 Po : R → List (Option AObj)
namespace Mach
def after (M : Mach) (n : Nat) : M.X ⊕ M.R → Option M.R
 | .inl y => Zqr M.step n y
 | .inr r => some r
def KK (M : Mach) (i : Nat) : List Zff := match M.isL i with | true => .rnd i :: (M.code i).2 | false => (M.code i).2
def IntoM (M : Mach) (y : M.X) (T : Tr Value) (s : St) : Prop :=
 ∃ live, Zn7 M.pre.length live = true ∧ Zzx M.fn.ntmps (M.H y).length (fun t => ZaI t (M.L y)) (ZjS 0 (M.H y)) T s live
def To (M : Mach) (K0 : List Zff) : StopC → M.X ⊕ M.R → Prop
 | .fin u s, .inr r => ∃ live, Zyj M.pre.length (M.V r) (M.Po r) u s live
 | .next j T s, .inl y => j = M.hd y ∧ M.isL j = true ∧ j ∈ ZZ K0 ∧ M.IntoM y T s
 | .head b K T s, .inl y => M.isL (M.hd y) = true ∧ (b, K) = M.code (M.hd y) ∧ (∀ j ∈ ZZ K, j ∈ ZZ K0) ∧ M.IntoM y T s
 | .cut b K T s, .inl y => M.isL (M.hd y) = false ∧ (b, K) = M.code (M.hd y) ∧ (∀ j ∈ ZZ K, j ∈ ZZ K0) ∧ M.IntoM y T s
 | _, _ => False
noncomputable def Start (M : Mach) (x : M.X) (gv : Nat → Value) (P : Program) (ext : FuncId → Option Ext) (cd cm fu : Nat) (orc : Orc) : Option StopC :=
 ZfF P ext M.fn M.fn.ntmps cd fu cm (M.code (M.hd x)).1 (M.KK (M.hd x)) (tmps M.fn.ntmps (fun t => ZaI t (M.L x)) gv) ⟨ZjS 0 (M.H x), (M.H x).length, [], orc, []⟩
noncomputable def Ok (M : Mach) (P : Program) (ext : FuncId → Option Ext) (x : M.X) (o : Option (M.X ⊕ M.R)) : Prop :=
 ∀ y, o = some y → ∀ gv, ∃ cd cm fu orc st, M.Start x gv P ext cd cm fu orc = some st ∧ (∀ p ∈ st.s.ob, p.1 = p.2) ∧ st.s.n ≤ far ∧ M.To (M.KK (M.hd x)) st y
def AtM (M : Mach) (P : Program) (ι0 : Ren) (w0 : World) (y : M.X) (gv : Nat → Value) (a : Act) (w : World) : Prop :=
 At P M.fn.ntmps (tmps M.fn.ntmps (fun t => ZaI t (M.L y)) gv) (ZjS 0 (M.H y)).get (M.H y).length far ι0 (lk M.pre) w0 a w
section
variable {P : Program} {ext : FuncId → Option Ext}
def Good (M : Mach) (P : Program) (r : M.R) (ι0 : Ren) (w0 : World) (n : Nat) (x : M.X) (Nx : Nat → Act → World → Prop) (a : Act) (w : World) : Prop :=
 match M.isL (M.hd x) with
 | true => Code.rounds P (M.code (M.hd x)).1 (post P M.fn (Fin P ι0 M.pre w0 (M.V r) (M.Po r)) Nx (M.code (M.hd x)).2) n a w
 | false => (M.code (M.hd x)).1.wp P (post P M.fn (Fin P ι0 M.pre w0 (M.V r) (M.Po r)) Nx (M.code (M.hd x)).2) a w
def Outer (M : Mach) (P : Program) (r : M.R) (ι0 : Ren) (w0 : World) (n : Nat) (js : List Nat) (Nx : Nat → Act → World → Prop) : Prop :=
 ∀ m z, m < n → Zqr M.step m z = some r → M.isL (M.hd z) = true → M.hd z ∈ js → ∀ gv a w, M.AtM P ι0 w0 z gv a w → Nx (M.hd z) a w
theorem run1 (M : Mach) (hH : ∀ x, (M.H x).length ≤ far) (hPo : ∀ r, (M.Po r).length ≤ far) (r : M.R) {ι0 : Ren} {w0 : World} (hd0 : ∀ k, ι0 k ≠ none → k < M.pre.length) (n : Nat)
  (ih : ∀ m, m ≤ n → ∀ x, Zqr M.step m x = some r → ∀ Nx, M.Outer P r ι0 w0 m (ZZ (M.code (M.hd x)).2) Nx → ∀ gv a w, M.AtM P ι0 w0 x gv a w → M.Good P r ι0 w0 m x Nx a w)
  {K0 : List Zff} {Nx : Nat → Act → World → Prop} (hNx : M.Outer P r ι0 w0 (n + 1) (ZZ K0) Nx) {st : StopC} {y : M.X ⊕ M.R} (hto : M.To K0 st y) (hy : M.after n y = some r)
  {ι : Ren} {a : Act} {w : World} (hS : Step P ι0 (lk M.pre) w0 ι st.s.h.get w) : Zsg P M.fn (Fin P ι0 M.pre w0 (M.V r) (M.Po r)) Nx M.fn.ntmps ι a w st := by
 have sub : ∀ {K : List Zff}, (∀ j ∈ ZZ K, j ∈ ZZ K0) → M.Outer P r ι0 w0 n (ZZ K) Nx := fun {K} hs m z hm hz hl hj gv a w hat => hNx m z (by omega) hz hl (hs _ hj) gv a w hat
 cases st with
 | fin u s =>
  cases y with
  | inl y => exact hto.elim
  | inr r' =>
   obtain ⟨live, hto⟩ := hto
   obtain rfl : r' = r := Option.some.inj hy
   exact fun v' hv => ZyJ (hPo r') hd0 hto hS hv
 | next j T s =>
  cases y with
  | inr r' => exact hto.elim
  | inl y =>
   obtain ⟨rfl, hl, hj, live, hk, hi⟩ := hto
   intro hT
   obtain ⟨gv, hat⟩ := Zvq (hH y) hi hk hd0 hT hS
   exact hNx n y (by omega) hy hl hj gv a w hat
 | head b K T s =>
  cases y with
  | inr r' => exact hto.elim
  | inl y =>
   obtain ⟨hl, hc, hsub, live, hk, hi⟩ := hto
   intro hT
   obtain ⟨gv, hat⟩ := Zvq (hH y) hi hk hd0 hT hS
   have e1 : b = (M.code (M.hd y)).1 := congrArg Prod.fst hc
   have e2 : K = (M.code (M.hd y)).2 := congrArg Prod.snd hc
   subst e1 e2
   have := ih n (Nat.le_refl _) y hy Nx (sub hsub) gv a w hat
   unfold Good at this
   rw [hl] at this
   exact wp_loop_rounds n this
 | cut b K T s =>
  cases y with
  | inr r' => exact hto.elim
  | inl y =>
   obtain ⟨hl, hc, hsub, live, hk, hi⟩ := hto
   intro hT
   obtain ⟨gv, hat⟩ := Zvq (hH y) hi hk hd0 hT hS
   have e1 : b = (M.code (M.hd y)).1 := congrArg Prod.fst hc
   have e2 : K = (M.code (M.hd y)).2 := congrArg Prod.snd hc
   subst e1 e2
   have := ih n (Nat.le_refl _) y hy Nx (sub hsub) gv a w hat
   unfold Good at this
   rw [hl] at this
   exact this
theorem rounds (F : Fit P ext) (M : Mach) (hH : ∀ x, (M.H x).length ≤ far) (hPo : ∀ r, (M.Po r).length ≤ far) (hK : ∀ x, M.isL (M.hd x) = true → M.hd x ∉ ZZ (M.code (M.hd x)).2) (ok : ∀ x, M.Ok P ext x (M.step x)) (r : M.R) {ι0 : Ren} {w0 : World} (hd0 : ∀ k, ι0 k ≠ none → k < M.pre.length) :
  ∀ (n : Nat) (x : M.X), Zqr M.step n x = some r → ∀ Nx, M.Outer P r ι0 w0 n (ZZ (M.code (M.hd x)).2) Nx → ∀ gv a w, M.AtM P ι0 w0 x gv a w → M.Good P r ι0 w0 n x Nx a w := by
 intro n
 induction n using Nat.strongRecOn with
 | ind n ih =>
  intro x hx Nx hNx gv a w hat
  cases n with
  | zero => cases hx
  | succ n =>
   have hat0 := hat
   obtain ⟨ι, hT, hS, hfr⟩ := hat
   cases hy : M.step x with
   | none => simp only [Zqr, hy] at hx; cases hx
   | some y =>
    obtain ⟨cd, cm, fu, orc, st, hev, ho, hn, hto⟩ := ok x y hy gv
    have hyr : M.after n y = some r := by
     cases y <;> (simp only [Zqr, hy] at hx; exact hx)
    have fresh : Fresh ι (M.H x).length st.s.n := ⟨hn, fun k h1 h2 => hfr k h1 (Nat.lt_of_lt_of_le h2 hn)⟩
    have ih' : ∀ m, m ≤ n → ∀ x, Zqr M.step m x = some r → ∀ Nx, M.Outer P r ι0 w0 m (ZZ (M.code (M.hd x)).2) Nx → ∀ gv a w, M.AtM P ι0 w0 x gv a w → M.Good P r ι0 w0 m x Nx a w := fun m hm => ih m (by omega)
    have go : ∀ Nx', M.Outer P r ι0 w0 (n + 1) (ZZ (M.KK (M.hd x))) Nx' → (M.code (M.hd x)).1.wp P (post P M.fn (Fin P ι0 M.pre w0 (M.V r) (M.Po r)) Nx' (M.KK (M.hd x))) a w := fun Nx' hNx' =>
     (ZvN F (R := Fin P ι0 M.pre w0 (M.V r) (M.Po r)) (Nx := Nx') fu).1 cm _ _ _ _ st hev ho ι a w hT hS.emb fresh fun ι' a' w' g1 _ => run1 M hH hPo r hd0 n ih' hNx' hto hyr (hS.trans g1)
    unfold Good
    cases hl : M.isL (M.hd x) with
    | false =>
     have e : M.KK (M.hd x) = (M.code (M.hd x)).2 := by unfold KK; rw [hl]
     rw [e] at go
     exact go Nx hNx
    | true =>
     have e : M.KK (M.hd x) = .rnd (M.hd x) :: (M.code (M.hd x)).2 := by unfold KK; rw [hl]
     rw [e] at go
     show Code.rounds P _ _ (n + 1) a w
     rw [rounds_succ]
     let Nx' : Nat → Act → World → Prop := fun j => if j = M.hd x then Code.rounds P (M.code (M.hd x)).1 (post P M.fn (Fin P ι0 M.pre w0 (M.V r) (M.Po r)) Nx (M.code (M.hd x)).2) n else Nx j
     have n1 : Nx' (M.hd x) = Code.rounds P (M.code (M.hd x)).1 (post P M.fn (Fin P ι0 M.pre w0 (M.V r) (M.Po r)) Nx (M.code (M.hd x)).2) n := if_pos rfl
     have n2 : ∀ j, j ≠ M.hd x → Nx' j = Nx j := fun j hj => if_neg hj
     have hp : post P M.fn (Fin P ι0 M.pre w0 (M.V r) (M.Po r)) Nx' (M.code (M.hd x)).2 = post P M.fn (Fin P ι0 M.pre w0 (M.V r) (M.Po r)) Nx (M.code (M.hd x)).2 := ZhL fun j hj => n2 j fun e => by subst e; exact hK x hl hj
     have := go Nx' fun m z hm hz hlz hj gv a w hat => by
      by_cases hzx : M.hd z = M.hd x
      ·rw [hzx, n1]
       have := ih m (by omega) z hz Nx (fun m' z' h1 h2 h3 h4 => hNx m' z' (by omega) h2 h3 (by rw [hzx] at h4; exact h4)) gv a w hat
       unfold Good at this
       rw [hlz] at this
       rw [hzx] at this
       exact ZvO m n (by omega) a w this
      ·rw [n2 _ hzx]
       rcases List.mem_cons.1 hj with h | h
       ·exact absurd h hzx
       ·exact hNx m z (by omega) hz hlz h gv a w hat
     simp only [post, hp, n1] at this
     exact this
noncomputable def Enter (M : Mach) (P : Program) (ext : FuncId → Option Ext) (A : Array Value) (o : Option (M.X ⊕ M.R)) : Prop :=
 ∀ y, o = some y → ∃ cd cm fu orc st, ZfF P ext M.fn M.fn.ntmps cd fu cm (Zwg M.fn) [] (Zhp 0 A.toList .nil) ⟨ZiE 0 M.pre, M.pre.length, [], orc, []⟩ = some st ∧ (∀ p ∈ st.s.ob, p.1 = p.2) ∧ st.s.n ≤ far ∧ M.To [] st y
theorem spec (F : Fit P ext) (M : Mach) {f : FuncId} (hfn : P.funcs[f]? = some M.fn) (hb : M.fn.body = some (Zwg M.fn)) {A : Array Value} (hA : Nat.ble A.size M.fn.ntmps = true) (hH : ∀ x, (M.H x).length ≤ far) (hPo : ∀ r, (M.Po r).length ≤ far) (hK : ∀ x, M.isL (M.hd x) = true → M.hd x ∉ ZZ (M.code (M.hd x)).2)
  (ok : ∀ x, M.Ok P ext x (M.step x)) {o : Option (M.X ⊕ M.R)} (en : M.Enter P ext A o) {n : Nat} {r : M.R} (h : goM M.step n o = some r) : LSpec P f A M.pre (M.V r) (M.Po r) := by
 cases o with
 | none => cases h
 | some y =>
  obtain ⟨cd, cm, fu, orc, st, hev, ho, hn, hto⟩ := en y rfl
  refine ZyR F hfn hb hA hev ho hn fun ι0 w0 hd ι' a' w' hS => ?_
  exact run1 M hH hPo r hd n (fun m _ => rounds F M hH hPo hK ok r hd m) (K0 := []) (fun m z _ _ _ hj => by cases hj) hto (by cases y <;> exact h) hS
end
/-! ### How leaves are written -/
section
variable {P : Program} {ext : FuncId → Option Ext} {M : Mach} {x : M.X} {cd cm fu : Nat} {orc : Orc} {live : List Nat} {bl : List (Option AObj)} {ob : List (Bool × Bool)}
theorem ok_fin {r : M.R} {u : Value} (hev : ∀ gv, Zvw live (M.Start x gv P ext cd cm fu orc) = some (u, bl, ob)) (ho : ∀ p ∈ ob, p.1 = p.2) (hl : live.length = (M.Po r).length) (hn : live.Nodup) (hk : Zn7 M.pre.length live = true) (hv : M.V r = Zb0 (rho live far) 3 u ∧ ZaS 3 u = true) (hbl : Zgy (rho live far) bl (M.Po r)) : M.Ok P ext x (some (.inr r)) := by
 intro y hy gv
 obtain rfl := Option.some.inj hy
 obtain ⟨s, h1, rfl, rfl, h4⟩ := ZwO (hev gv)
 exact ⟨cd, cm, fu, orc, _, h1, ho, h4, live, hl, hn, hk, hv, Zkf hbl⟩
theorem ok_next {y : M.X} {tv : (Nat → Value) → List (Option Value)} (hL : M.isL (M.hd y) = true) (hr : M.hd y ∈ ZZ (M.KK (M.hd x))) (hev : ∀ gv, ZtP (M.hd y) live ((M.L y).map (·.1)) (M.Start x gv P ext cd cm fu orc) = some (tv gv, bl, ob)) (ho : ∀ p ∈ ob, p.1 = p.2) (hl : live.length = (M.H y).length) (hn : live.Nodup) (hk : Zn7 M.pre.length live = true) (ht : ∀ gv, Zp5 (rho live far) (tv gv) (M.L y)) (hbl : Zgy (rho live far) bl (M.H y)) : M.Ok P ext x (some (.inl y)) := by
 intro y' hy gv
 obtain rfl := Option.some.inj hy
 obtain ⟨T, s, h1, h2, rfl, rfl, h4⟩ := ZvW (hev gv)
 exact ⟨cd, cm, fu, orc, _, h1, ho, h4, rfl, hL, hr, live, hk, ZwP hl hn (h2 ▸ ht gv) hbl⟩
variable {A : Array Value}
noncomputable def startE (M : Mach) (P : Program) (ext : FuncId → Option Ext) (A : Array Value) (cd cm fu : Nat) (orc : Orc) : Option StopC :=
 ZfF P ext M.fn M.fn.ntmps cd fu cm (Zwg M.fn) [] (Zhp 0 A.toList .nil) ⟨ZiE 0 M.pre, M.pre.length, [], orc, []⟩
theorem en_head {y : M.X} {tv : List (Option Value)} {bK : Code × List Zff} (hL : M.isL (M.hd y) = true) (hr : bK = M.code (M.hd y)) (hsub : ZZ (M.code (M.hd y)).2 = []) (hev : ZtQ live ((M.L y).map (·.1)) (M.startE P ext A cd cm fu orc) = some (bK, tv, bl, ob)) (ho : ∀ p ∈ ob, p.1 = p.2) (hl : live.length = (M.H y).length) (hn : live.Nodup) (hk : Zn7 M.pre.length live = true) (ht : Zp5 (rho live far) tv (M.L y)) (hbl : Zgy (rho live far) bl (M.H y)) : M.Enter P ext A (some (.inl y)) := by
 intro y' hy
 obtain rfl := Option.some.inj hy
 obtain ⟨T, s, h1, rfl, rfl, rfl, h4⟩ := ZvX hev
 exact ⟨cd, cm, fu, orc, _, h1, ho, h4, hL, hr, (fun j hj => by rw [show bK.2 = (M.code (M.hd y)).2 from congrArg Prod.snd hr, hsub] at hj; cases hj), live, hk, ZwP hl hn ht hbl⟩
end
end Mach
/-! ### Functions without loops -/
section
variable {P : Program} {ext : FuncId → Option Ext} {fn : Func} {pre : List AObj} {A : Array Value} {R : Type} {V : R → Value} {Po : R → List (Option AObj)} {live : List Nat} {bl : List (Option AObj)} {ob : List (Bool × Bool)} {fu : Nat} {orc : Orc}
end
theorem Zm {P : Program} {f : FuncId} {A A' : Array Value} {pre : List (Nat × AObj)} {v : Value} {post : List (Nat × Option AObj)} {n dn : Nat} (e : A = A') (h : Zj P f A' pre v post n dn) : Zj P f A pre v post n dn := e ▸ h
end Ev
end Go.Proofs.YtgpekgedjmhmeaaGreat
/- Rows of elements of any kind: each element so many cells. -/
namespace Go.Proofs.YtgpekgedjmhmeaaGreat
open Go.RowKit
namespace Ev
structure Enc (α : Type) where
 enc : α → List Value
 w : Nat
 dflt : α
 len : ∀ a, (enc a).length = w
 atoms : ∀ a, ZS atom (enc a) = true
section
variable {α : Type} {E : Enc α}
/-! ### Such a row is a row of atoms -/
end
abbrev vi (x : Int) : Value := .int .i64 x
abbrev vs (k o n c : Nat) : Value := .slice (some ⟨k, o, none⟩) n c
abbrev vp (k o : Nat) : Value := .pointer (some ⟨k, o, none⟩)
theorem bT {a b : Int} (h : a = b) : (a == b) = true := beq_iff_eq.2 h
/-! ### Rows of the caller's, as rows -/
section
variable {α : Type} {E : Enc α}
end
/-! ### Bytes as strings -/
end Ev
end Go.Proofs.YtgpekgedjmhmeaaGreat
/- Functions told of whole runs: their own loops run on. -/
namespace Go.Proofs.YtgpekgedjmhmeaaGreat
open Go.RowKit
namespace Ev
section
variable {P : Program} {ext : FuncId → Option Ext} {pre : List AObj} {A : Array Value} {R : Type} {V : R → Value} {Po : R → List (Option AObj)} {live : List Nat} {bl : List (Option AObj)} {ob : List (Bool × Bool)} {fu : Nat} {orc : Orc}
noncomputable def ZwQ (P : Program) (ext : FuncId → Option Ext) (f : FuncId) (pre : List AObj) (A : Array Value) (fu : Nat) (orc : Orc) : Option Stop :=
 match Zeh P ext fu f A ⟨ZiE 0 pre, pre.length, [], orc, []⟩ with
 | some (v, s) => some (.fin v s)
 | none => none
theorem Zxz (F : Fit P ext) {f : FuncId} {v u : Value} {post : List (Option AObj)} {s : St} (hev : ZwQ P ext f pre A fu orc = some (.fin u s)) (ho : ∀ p ∈ s.ob, p.1 = p.2) (hn : s.n ≤ far) (hle : post.length ≤ far) (live : List Nat) (h : Zyj pre.length v post u s live) : LSpec P f A pre v post := by
 intro ι w args' hd ha he
 have hc : Zeh P ext fu f A ⟨ZiE 0 pre, pre.length, [], orc, []⟩ = some (u, s) := by
  unfold ZwQ at hev
  split at hev
  ·rename_i v1 s1 h1
   injection hev with hev
   injection hev with q1 q2
   rw [h1, q1, q2]
  ·cases hev
 have hF := (ZfD (P := P) F fu).2.2.2.1 f A _ u s hc ho ι w args' ha (by show Emb P ι (ZiE 0 pre).get w; rw [Zqk]; exact he)
  ⟨hn, fun k h1 _ => by
   cases hk : ι k with
   | none => rfl
   | some b => exact absurd (hd k (by rw [hk]; simp)) (by have : pre.length ≤ k := h1; omega)⟩
 refine hF.mono ?_
 rintro e w' ⟨v', ι', rfl, g1, g2, g3⟩
 exact ZyJ hle hd h (by have := g1; simp only [Zqk] at this; exact this) g3
def Gx (P : Program) (f : FuncId) (pre : List AObj) (A : Array Value) {R : Type} (V : R → Value) (Po : R → List (Option AObj)) (o : Option R) : Prop :=
 ∀ r, o = some r → LSpec P f A pre (V r) (Po r)
variable {f : FuncId}
theorem ZR : Gx P f pre A V Po none := fun _ h => by cases h
theorem ZN {c : Prop} [Decidable c] {B C : Option R} (h1 : c → Gx P f pre A V Po B) (h2 : ¬ c → Gx P f pre A V Po C) : Gx P f pre A V Po (if c then B else C) := by
 by_cases h : c
 ·rw [if_pos h]; exact h1 h
 ·rw [if_neg h]; exact h2 h
theorem Zd {α : Type} {o : Option α} {k : α → Option R} (h : ∀ r, o = some r → Gx P f pre A V Po (k r)) : Gx P f pre A V Po (o.bind k) := by
 cases o with
 | none => exact ZR
 | some r => exact h r rfl
theorem Zh (F : Fit P ext) {r : R} {u : Value} (hev : ZwH live (ZwQ P ext f pre A fu orc) = some (u, bl, ob)) (ho : ∀ p ∈ ob, p.1 = p.2) (hl : live.length = (Po r).length) (hn : live.Nodup) (hk : Zn7 pre.length live = true) (hv : V r = Zb0 (rho live far) 3 u ∧ ZaS 3 u = true) (hbl : Zgy (rho live far) bl (Po r)) (hle : (Po r).length ≤ far) : Gx P f pre A V Po (some r) := by
 intro r' hr
 obtain rfl := Option.some.inj hr
 obtain ⟨s, h1, rfl, rfl, h4⟩ := Zxy hev
 exact Zxz F h1 ho h4 hle live ⟨hl, hn, hk, hv, Zkf hbl⟩
end
end Ev
end Go.Proofs.YtgpekgedjmhmeaaGreat
/- Records, and the program's functions as plain ones. -/
namespace Go.Proofs.YtgpekgedjmhmeaaGreat
open Go.RowKit
namespace Ev
set_option linter.unusedVariables false
structure R_ii where
 a0 : Int
 a1 : Int
def R_ii.z : R_ii := ⟨0, 0⟩
inductive ZA where
 | r0

inductive Ze where
 | h1m0
 | h1m1
 | h1m2
 | h1m3
 | h1m4
 | h1m5
 | h1m6
 | h1m7
 | h1m8
 | h1m9
 | h1m10
 | h1m11
 | h1m12
 | h1m13
 | h1m14
 | h1m15
 | h1m16
 | h1m17
 | h1m18
 | h1m19
 | h1m20
 | h1m21
 | h1m22
 | h1m23

def ZhU  (N : Nat) : Option (Ze ⊕ ZA) :=
 some (.inl (.h1m1 : Ze))

def ZhV  (N : Nat) : Option (Ze ⊕ ZA) :=
 some (.inl (.h1m2 : Ze))

def ZhW  (N : Nat) : Option (Ze ⊕ ZA) :=
 some (.inl (.h1m3 : Ze))

def ZhX  (N : Nat) : Option (Ze ⊕ ZA) :=
 some (.inl (.h1m4 : Ze))

def ZhY  (N : Nat) : Option (Ze ⊕ ZA) :=
 some (.inl (.h1m5 : Ze))

def ZhZ  (N : Nat) : Option (Ze ⊕ ZA) :=
 some (.inl (.h1m6 : Ze))

def Zia  (N : Nat) : Option (Ze ⊕ ZA) :=
 some (.inl (.h1m7 : Ze))

def Zib  (N : Nat) : Option (Ze ⊕ ZA) :=
 some (.inl (.h1m8 : Ze))

def Zic  (N : Nat) : Option (Ze ⊕ ZA) :=
 some (.inl (.h1m9 : Ze))

def Zid  (N : Nat) : Option (Ze ⊕ ZA) :=
 some (.inl (.h1m10 : Ze))

def Zhw  (N : Nat) : Option (Ze ⊕ ZA) :=
 some (.inl (.h1m11 : Ze))

def Zhx  (N : Nat) : Option (Ze ⊕ ZA) :=
 some (.inl (.h1m12 : Ze))

def Zhy  (N : Nat) : Option (Ze ⊕ ZA) :=
 some (.inl (.h1m13 : Ze))

def Zhz  (N : Nat) : Option (Ze ⊕ ZA) :=
 some (.inl (.h1m14 : Ze))

def Zh0  (N : Nat) : Option (Ze ⊕ ZA) :=
 some (.inl (.h1m15 : Ze))

def Zh1  (N : Nat) : Option (Ze ⊕ ZA) :=
 some (.inl (.h1m16 : Ze))

def Zh2  (N : Nat) : Option (Ze ⊕ ZA) :=
 some (.inl (.h1m17 : Ze))

def Zh3  (N : Nat) : Option (Ze ⊕ ZA) :=
 some (.inl (.h1m18 : Ze))

def Zh4  (N : Nat) : Option (Ze ⊕ ZA) :=
 some (.inl (.h1m19 : Ze))

def Zh5  (N : Nat) : Option (Ze ⊕ ZA) :=
 some (.inl (.h1m20 : Ze))

def Zh6  (N : Nat) : Option (Ze ⊕ ZA) :=
 some (.inl (.h1m21 : Ze))

def Zh7  (N : Nat) : Option (Ze ⊕ ZA) :=
 some (.inl (.h1m22 : Ze))

def Zh8  (N : Nat) : Option (Ze ⊕ ZA) :=
 some (.inl (.h1m23 : Ze))

def Zh9  (N : Nat) : Option (Ze ⊕ ZA) :=
 some (.inr (.r0 : ZA))

def Z4  (N : Nat) : Ze → Option (Ze ⊕ ZA)
 | .h1m0 => ZhU  N
 | .h1m1 => ZhV  N
 | .h1m2 => ZhW  N
 | .h1m3 => ZhX  N
 | .h1m4 => ZhY  N
 | .h1m5 => ZhZ  N
 | .h1m6 => Zia  N
 | .h1m7 => Zib  N
 | .h1m8 => Zic  N
 | .h1m9 => Zid  N
 | .h1m10 => Zhw  N
 | .h1m11 => Zhx  N
 | .h1m12 => Zhy  N
 | .h1m13 => Zhz  N
 | .h1m14 => Zh0  N
 | .h1m15 => Zh1  N
 | .h1m16 => Zh2  N
 | .h1m17 => Zh3  N
 | .h1m18 => Zh4  N
 | .h1m19 => Zh5  N
 | .h1m20 => Zh6  N
 | .h1m21 => Zh7  N
 | .h1m22 => Zh8  N
 | .h1m23 => Zh9  N

def Zlc  (N : Nat) : Option (Ze ⊕ ZA) :=
 some (.inl (.h1m0 : Ze))

def Zx0  (N : Nat) : Option ZA := goM (Z4  N) N (Zlc  N)
end Ev
end Go.Proofs.YtgpekgedjmhmeaaGreat
/- How records are written, and which functions are told. -/
namespace Go.Proofs.YtgpekgedjmhmeaaGreat
open Go.RowKit
namespace Ev
set_option linter.unusedVariables false
abbrev vq : Value := .int .i64 0
abbrev vf : Value := .bool false
abbrev vT : Value := .bool true
abbrev vn : Value := .slice none 0 0
noncomputable abbrev dS {α : Type} (a : α) : Bool := dP (a = a)
theorem rr {p q : Prop} (h : p := by rfl) (h2 : q := by rfl) : p ∧ q := ⟨h, h2⟩
section
variable {l : List (Bool × Bool)}
theorem oT {a b : Int} (hl : ∀ q ∈ l, q.1 = q.2) (h : a = b := by omega) : ∀ q ∈ ((a == b), true) :: l, q.1 = q.2 := Zb (bT h) hl
theorem oY {p : Prop} [Decidable p] (hl : ∀ q ∈ l, q.1 = q.2) (h : p := by omega) : ∀ q ∈ (decide p, true) :: l, q.1 = q.2 := Zb (decide_eq_true h) hl
theorem oN {p : Prop} [Decidable p] (hl : ∀ q ∈ l, q.1 = q.2) (h : ¬ p := by omega) : ∀ q ∈ (decide p, false) :: l, q.1 = q.2 := Zb (decide_eq_false h) hl
end
def mapE (L : List R_ii) : List MapEntry := L.map fun x => ⟨.int .i64 x.a0, .int .i64 x.a1, 0⟩
def Zaa (L : List R_ii) : Obj := .map (mapE L).toArray 0
instance : Inhabited R_ii := ⟨R_ii.z⟩
def tqA : Value → Value → Bool
 | .int k a, .int k' b => decide (k = k') && (a == b)
 | .bool a, .bool b => a == b
 | _, _ => false
def tqL : List Value → List Value → Bool
 | [], [] => true
 | x :: l, y :: m => tqA x y && tqL l m
 | _, _ => false
def tqB : Value → Value → Bool
 | .agg a, .agg b => tqL a.toList b.toList
 | x, y => tqA x y
def tqM : List Value → List Value → Bool
 | [], [] => true
 | x :: l, y :: m => tqB x y && tqM l m
 | _, _ => false
theorem ZwR {x y : Value} (h : tqA x y = true) : x = y := by
 unfold tqA at h
 split at h
 ·simp only [Bool.and_eq_true, decide_eq_true_eq, beq_iff_eq] at h; rw [h.1, h.2]
 ·rw [beq_iff_eq.1 h]
 ·cases h
theorem ZwS : ∀ {x y : List Value}, tqL x y = true → x = y
 | [], [], _ => rfl
 | [], _ :: _, h => by cases h
 | _ :: _, [], h => by cases h
 | x :: l, y :: m, h => by
  simp only [tqL, Bool.and_eq_true] at h
  rw [ZwR h.1, ZwS h.2]
theorem Zz6 {x y : Value} (h : tqB x y = true) : x = y := by
 unfold tqB at h
 split at h
 ·rename_i a b
  have := ZwS h
  rw [Array.ext' this]
 ·exact ZwR h
theorem ZwT : ∀ {x y : List Value}, tqM x y = true → x = y
 | [], [], _ => rfl
 | [], _ :: _, h => by cases h
 | _ :: _, [], h => by cases h
 | x :: l, y :: m, h => by
  simp only [tqM, Bool.and_eq_true] at h
  rw [Zz6 h.1, ZwT h.2]
def Zys : List (List Value × Value) → List Value → Option Value
 | [], _ => none
 | e :: t, l => bif tqM e.1 l then some e.2 else Zys t l
theorem ZvP : ∀ {t : List (List Value × Value)} {l : List Value} {v : Value}, Zys t l = some v → ∃ e ∈ t, e.1 = l ∧ e.2 = v
 | [], l, v, h => by cases h
 | e :: t, l, v, h => by
  simp only [Zys] at h
  cases hb : tqM e.1 l with
  | true =>
   rw [hb] at h
   simp only [cond_true, Option.some.injEq] at h
   exact ⟨e, List.mem_cons_self, ZwT hb, h⟩
  | false =>
   rw [hb] at h
   simp only [cond_false] at h
   obtain ⟨e', h1, h2⟩ := ZvP h
   exact ⟨e', List.mem_cons_of_mem _ h1, h2⟩
theorem Zz7 (w : World) : Calls Tryz.prog 30 #[Value.agg #[Value.int .i64 (10 : Int), Value.int .i64 (0 : Int), Value.int .i64 (0 : Int), Value.int .i64 (0 : Int)]] w (Ret (Value.int .i64 (0 : Int)) w) := Zca 4000 w (by kernel_rfl) rfl
theorem Zz8 (w : World) : Calls Tryz.prog 30 #[Value.agg #[Value.int .i64 (1 : Int), Value.int .i64 (1 : Int), Value.int .i64 (5 : Int), Value.int .i64 (0 : Int)]] w (Ret (Value.int .i64 (0 : Int)) w) := Zca 4000 w (by kernel_rfl) rfl
theorem Zz9 (w : World) : Calls Tryz.prog 30 #[Value.agg #[Value.int .i64 (15 : Int), Value.int .i64 (0 : Int), Value.int .i64 (0 : Int), Value.int .i64 (0 : Int)]] w (Ret (Value.int .i64 (0 : Int)) w) := Zca 4000 w (by kernel_rfl) rfl
theorem ZzA (w : World) : Calls Tryz.prog 30 #[Value.agg #[Value.int .i64 (13 : Int), Value.int .i64 (2 : Int), Value.int .i64 (0 : Int), Value.int .i64 (0 : Int)]] w (Ret (Value.int .i64 (0 : Int)) w) := Zca 4000 w (by kernel_rfl) rfl
theorem ZzB (w : World) : Calls Tryz.prog 30 #[Value.agg #[Value.int .i64 (9 : Int), Value.int .i64 (2 : Int), Value.int .i64 (27 : Int), Value.int .i64 (0 : Int)]] w (Ret (Value.int .i64 (0 : Int)) w) := Zca 4000 w (by kernel_rfl) rfl
theorem ZzC (w : World) : Calls Tryz.prog 30 #[Value.agg #[Value.int .i64 (13 : Int), Value.int .i64 (3 : Int), Value.int .i64 (2 : Int), Value.int .i64 (2 : Int)]] w (Ret (Value.int .i64 (0 : Int)) w) := Zca 4000 w (by kernel_rfl) rfl
theorem ZzD (w : World) : Calls Tryz.prog 30 #[Value.agg #[Value.int .i64 (7 : Int), Value.int .i64 (4 : Int), Value.int .i64 (1 : Int), Value.int .i64 (3 : Int)]] w (Ret (Value.int .i64 (0 : Int)) w) := Zca 4000 w (by kernel_rfl) rfl
theorem ZzE (w : World) : Calls Tryz.prog 30 #[Value.agg #[Value.int .i64 (9 : Int), Value.int .i64 (4 : Int), Value.int .i64 (9 : Int), Value.int .i64 (0 : Int)]] w (Ret (Value.int .i64 (0 : Int)) w) := Zca 4000 w (by kernel_rfl) rfl
theorem ZzF (w : World) : Calls Tryz.prog 30 #[Value.agg #[Value.int .i64 (8 : Int), Value.int .i64 (30 : Int), Value.int .i64 (0 : Int), Value.int .i64 (0 : Int)]] w (Ret (Value.int .i64 (0 : Int)) w) := Zca 4000 w (by kernel_rfl) rfl
theorem ZzG (w : World) : Calls Tryz.prog 30 #[Value.agg #[Value.int .i64 (6 : Int), Value.int .i64 (4 : Int), Value.int .i64 (1 : Int), Value.int .i64 (3 : Int)]] w (Ret (Value.int .i64 (0 : Int)) w) := Zca 4000 w (by kernel_rfl) rfl
theorem ZyS (w : World) : Calls Tryz.prog 30 #[Value.agg #[Value.int .i64 (9 : Int), Value.int .i64 (4 : Int), Value.int .i64 (19 : Int), Value.int .i64 (0 : Int)]] w (Ret (Value.int .i64 (0 : Int)) w) := Zca 4000 w (by kernel_rfl) rfl
theorem ZyT (w : World) : Calls Tryz.prog 30 #[Value.agg #[Value.int .i64 (13 : Int), Value.int .i64 (5 : Int), Value.int .i64 (2 : Int), Value.int .i64 (0 : Int)]] w (Ret (Value.int .i64 (0 : Int)) w) := Zca 4000 w (by kernel_rfl) rfl
theorem ZyU (w : World) : Calls Tryz.prog 30 #[Value.agg #[Value.int .i64 (9 : Int), Value.int .i64 (5 : Int), Value.int .i64 (15 : Int), Value.int .i64 (0 : Int)]] w (Ret (Value.int .i64 (0 : Int)) w) := Zca 4000 w (by kernel_rfl) rfl
theorem ZyV (w : World) : Calls Tryz.prog 30 #[Value.agg #[Value.int .i64 (3 : Int), Value.int .i64 (2 : Int), Value.int .i64 (5 : Int), Value.int .i64 (0 : Int)]] w (Ret (Value.int .i64 (0 : Int)) w) := Zca 4000 w (by kernel_rfl) rfl
theorem ZyW (w : World) : Calls Tryz.prog 30 #[Value.agg #[Value.int .i64 (8 : Int), Value.int .i64 (5 : Int), Value.int .i64 (0 : Int), Value.int .i64 (0 : Int)]] w (Ret (Value.int .i64 (0 : Int)) w) := Zca 4000 w (by kernel_rfl) rfl
theorem ZyX (w : World) : Calls Tryz.prog 30 #[Value.agg #[Value.int .i64 (11 : Int), Value.int .i64 (6 : Int), Value.int .i64 (3 : Int), Value.int .i64 (3 : Int)]] w (Ret (Value.int .i64 (0 : Int)) w) := Zca 4000 w (by kernel_rfl) rfl
theorem ZyY (w : World) : Calls Tryz.prog 30 #[Value.agg #[Value.int .i64 (14 : Int), Value.int .i64 (6 : Int), Value.int .i64 (2 : Int), Value.int .i64 (1 : Int)]] w (Ret (Value.int .i64 (0 : Int)) w) := Zca 4000 w (by kernel_rfl) rfl
theorem ZyZ (w : World) : Calls Tryz.prog 30 #[Value.agg #[Value.int .i64 (14 : Int), Value.int .i64 (2 : Int), Value.int .i64 (0 : Int), Value.int .i64 (6 : Int)]] w (Ret (Value.int .i64 (0 : Int)) w) := Zca 4000 w (by kernel_rfl) rfl
theorem Zza (w : World) : Calls Tryz.prog 30 #[Value.agg #[Value.int .i64 (13 : Int), Value.int .i64 (5 : Int), Value.int .i64 (2 : Int), Value.int .i64 (1 : Int)]] w (Ret (Value.int .i64 (0 : Int)) w) := Zca 4000 w (by kernel_rfl) rfl
theorem Zzb (w : World) : Calls Tryz.prog 30 #[Value.agg #[Value.int .i64 (9 : Int), Value.int .i64 (5 : Int), Value.int .i64 (23 : Int), Value.int .i64 (0 : Int)]] w (Ret (Value.int .i64 (0 : Int)) w) := Zca 4000 w (by kernel_rfl) rfl
theorem Zzc (w : World) : Calls Tryz.prog 30 #[Value.agg #[Value.int .i64 (14 : Int), Value.int .i64 (2 : Int), Value.int .i64 (1 : Int), Value.int .i64 (6 : Int)]] w (Ret (Value.int .i64 (0 : Int)) w) := Zca 4000 w (by kernel_rfl) rfl
theorem Zzd (w : World) : Calls Tryz.prog 30 #[Value.agg #[Value.int .i64 (14 : Int), Value.int .i64 (0 : Int), Value.int .i64 (0 : Int), Value.int .i64 (6 : Int)]] w (Ret (Value.int .i64 (0 : Int)) w) := Zca 4000 w (by kernel_rfl) rfl
theorem Zze (w : World) : Calls Tryz.prog 30 #[Value.agg #[Value.int .i64 (17 : Int), Value.int .i64 (0 : Int), Value.int .i64 (0 : Int), Value.int .i64 (0 : Int)]] w (Ret (Value.int .i64 (0 : Int)) w) := Zca 4000 w (by kernel_rfl) rfl
def Zvx : List (List Value × Value) := [([Value.agg #[Value.int .i64 (10 : Int), Value.int .i64 (0 : Int), Value.int .i64 (0 : Int), Value.int .i64 (0 : Int)]], Value.int .i64 (0 : Int)), ([Value.agg #[Value.int .i64 (1 : Int), Value.int .i64 (1 : Int), Value.int .i64 (5 : Int), Value.int .i64 (0 : Int)]], Value.int .i64 (0 : Int)), ([Value.agg #[Value.int .i64 (15 : Int), Value.int .i64 (0 : Int), Value.int .i64 (0 : Int), Value.int .i64 (0 : Int)]], Value.int .i64 (0 : Int)), ([Value.agg #[Value.int .i64 (13 : Int), Value.int .i64 (2 : Int), Value.int .i64 (0 : Int), Value.int .i64 (0 : Int)]], Value.int .i64 (0 : Int)), ([Value.agg #[Value.int .i64 (9 : Int), Value.int .i64 (2 : Int), Value.int .i64 (27 : Int), Value.int .i64 (0 : Int)]], Value.int .i64 (0 : Int)), ([Value.agg #[Value.int .i64 (13 : Int), Value.int .i64 (3 : Int), Value.int .i64 (2 : Int), Value.int .i64 (2 : Int)]], Value.int .i64 (0 : Int)), ([Value.agg #[Value.int .i64 (7 : Int), Value.int .i64 (4 : Int), Value.int .i64 (1 : Int), Value.int .i64 (3 : Int)]], Value.int .i64 (0 : Int)), ([Value.agg #[Value.int .i64 (9 : Int), Value.int .i64 (4 : Int), Value.int .i64 (9 : Int), Value.int .i64 (0 : Int)]], Value.int .i64 (0 : Int)), ([Value.agg #[Value.int .i64 (8 : Int), Value.int .i64 (30 : Int), Value.int .i64 (0 : Int), Value.int .i64 (0 : Int)]], Value.int .i64 (0 : Int)), ([Value.agg #[Value.int .i64 (6 : Int), Value.int .i64 (4 : Int), Value.int .i64 (1 : Int), Value.int .i64 (3 : Int)]], Value.int .i64 (0 : Int)), ([Value.agg #[Value.int .i64 (9 : Int), Value.int .i64 (4 : Int), Value.int .i64 (19 : Int), Value.int .i64 (0 : Int)]], Value.int .i64 (0 : Int)), ([Value.agg #[Value.int .i64 (13 : Int), Value.int .i64 (5 : Int), Value.int .i64 (2 : Int), Value.int .i64 (0 : Int)]], Value.int .i64 (0 : Int)), ([Value.agg #[Value.int .i64 (9 : Int), Value.int .i64 (5 : Int), Value.int .i64 (15 : Int), Value.int .i64 (0 : Int)]], Value.int .i64 (0 : Int)), ([Value.agg #[Value.int .i64 (3 : Int), Value.int .i64 (2 : Int), Value.int .i64 (5 : Int), Value.int .i64 (0 : Int)]], Value.int .i64 (0 : Int)), ([Value.agg #[Value.int .i64 (8 : Int), Value.int .i64 (5 : Int), Value.int .i64 (0 : Int), Value.int .i64 (0 : Int)]], Value.int .i64 (0 : Int)), ([Value.agg #[Value.int .i64 (11 : Int), Value.int .i64 (6 : Int), Value.int .i64 (3 : Int), Value.int .i64 (3 : Int)]], Value.int .i64 (0 : Int)), ([Value.agg #[Value.int .i64 (14 : Int), Value.int .i64 (6 : Int), Value.int .i64 (2 : Int), Value.int .i64 (1 : Int)]], Value.int .i64 (0 : Int)), ([Value.agg #[Value.int .i64 (14 : Int), Value.int .i64 (2 : Int), Value.int .i64 (0 : Int), Value.int .i64 (6 : Int)]], Value.int .i64 (0 : Int)), ([Value.agg #[Value.int .i64 (13 : Int), Value.int .i64 (5 : Int), Value.int .i64 (2 : Int), Value.int .i64 (1 : Int)]], Value.int .i64 (0 : Int)), ([Value.agg #[Value.int .i64 (9 : Int), Value.int .i64 (5 : Int), Value.int .i64 (23 : Int), Value.int .i64 (0 : Int)]], Value.int .i64 (0 : Int)), ([Value.agg #[Value.int .i64 (14 : Int), Value.int .i64 (2 : Int), Value.int .i64 (1 : Int), Value.int .i64 (6 : Int)]], Value.int .i64 (0 : Int)), ([Value.agg #[Value.int .i64 (14 : Int), Value.int .i64 (0 : Int), Value.int .i64 (0 : Int), Value.int .i64 (6 : Int)]], Value.int .i64 (0 : Int)), ([Value.agg #[Value.int .i64 (17 : Int), Value.int .i64 (0 : Int), Value.int .i64 (0 : Int), Value.int .i64 (0 : Int)]], Value.int .i64 (0 : Int))]
theorem Zyt : ∀ e ∈ Zvx, ∀ w : World, Calls Tryz.prog 30 e.1.toArray w (Ret e.2 w) := by
 intro e he w
 unfold Zvx at he
 rcases List.mem_cons.1 he with rfl | he
 ·exact Zz7 w
 rcases List.mem_cons.1 he with rfl | he
 ·exact Zz8 w
 rcases List.mem_cons.1 he with rfl | he
 ·exact Zz9 w
 rcases List.mem_cons.1 he with rfl | he
 ·exact ZzA w
 rcases List.mem_cons.1 he with rfl | he
 ·exact ZzB w
 rcases List.mem_cons.1 he with rfl | he
 ·exact ZzC w
 rcases List.mem_cons.1 he with rfl | he
 ·exact ZzD w
 rcases List.mem_cons.1 he with rfl | he
 ·exact ZzE w
 rcases List.mem_cons.1 he with rfl | he
 ·exact ZzF w
 rcases List.mem_cons.1 he with rfl | he
 ·exact ZzG w
 rcases List.mem_cons.1 he with rfl | he
 ·exact ZyS w
 rcases List.mem_cons.1 he with rfl | he
 ·exact ZyT w
 rcases List.mem_cons.1 he with rfl | he
 ·exact ZyU w
 rcases List.mem_cons.1 he with rfl | he
 ·exact ZyV w
 rcases List.mem_cons.1 he with rfl | he
 ·exact ZyW w
 rcases List.mem_cons.1 he with rfl | he
 ·exact ZyX w
 rcases List.mem_cons.1 he with rfl | he
 ·exact ZyY w
 rcases List.mem_cons.1 he with rfl | he
 ·exact ZyZ w
 rcases List.mem_cons.1 he with rfl | he
 ·exact Zza w
 rcases List.mem_cons.1 he with rfl | he
 ·exact Zzb w
 rcases List.mem_cons.1 he with rfl | he
 ·exact Zzc w
 rcases List.mem_cons.1 he with rfl | he
 ·exact Zzd w
 rcases List.mem_cons.1 he with rfl | he
 ·exact Zze w
 cases he
def Zyu : FuncId → Option (List Value → Option Value) := fun f =>
 bif Nat.beq f 30 then some (Zys Zvx) else
 none
theorem Z0p : ZsL Zyu := fun f g h => by
 unfold Zyu at h
 cases hb : Nat.beq f 30 with
 | true =>
  rw [hb] at h
  obtain rfl := Nat.eq_of_beq_eq_true hb
  simp only [cond_true, Option.some.injEq] at h
  subst h
  refine ⟨⟨_, _, Tryz.func30, rfl⟩, fun args v ha hv w => ?_⟩
  obtain ⟨e, he, h1, rfl⟩ := ZvP hv
  have := Zyt e he w
  rw [h1, Array.toArray_toList] at this
  exact this
 | false =>
  rw [hb] at h
  simp only [cond_false] at h
  cases h
def ZzM : FuncId → Bool := fun f => Nat.beq f 14
noncomputable def ZT : FuncId → Option Ext := ZwG (Zyq Zyu) ZzM
theorem Z0q : Fit Tryz.prog ZT := fitT (Zz4 Z0p) (fun f h => by
 simp only [ZzM, Bool.or_eq_true] at h
 simp only [Nat.beq_eq] at h
 rcases h with rfl
 ·exact ⟨_, _, Tryz.func14, rfl⟩
 )
end Ev
end Go.Proofs.YtgpekgedjmhmeaaGreat
/- Calls do what the plain functions say. -/
namespace Go.Proofs.YtgpekgedjmhmeaaGreat
open Go.RowKit
namespace Ev
set_option linter.unusedVariables false
set_option maxRecDepth 100000
abbrev tca : AObj := .cells [vi 10, vq, vq, vq, vi 1, vi 1, vi 5, vq, vi 15, vq, vq, vq, vi 13, vi 2, vq, vq, vi 9, vi 2, vi 27, vq, vi 13, vi 3, vi 2, vi 2, vi 7, vi 4, vi 1, vi 3, vi 9, vi 4, vi 9, vq, vi 8, vi 30, vq, vq, vi 6, vi 4, vi 1, vi 3, vi 9, vi 4, vi 19, vq, vi 13, vi 5, vi 2, vq, vi 9, vi 5, vi 15, vq, vi 3, vi 2, vi 5, vq, vi 8, vi 5, vq, vq, vi 11, vi 6, vi 3, vi 3, vi 14, vi 6, vi 2, vi 1, vi 14, vi 2, vq, vi 6, vi 8, vi 30, vq, vq, vi 13, vi 5, vi 2, vi 1, vi 9, vi 5, vi 23, vq, vi 3, vi 2, vi 5, vq, vi 8, vi 5, vq, vq, vi 11, vi 6, vi 3, vi 3, vi 14, vi 6, vi 2, vi 1, vi 14, vi 2, vi 1, vi 6, vi 8, vi 30, vq, vq, vi 11, vi 6, vi 3, vi 3, vi 14, vi 6, vi 2, vi 1, vi 14, vq, vq, vi 6, vi 17, vq, vq, vq] 42
abbrev tcb : AObj := .cells [vi 1, vi 1, vf, vf, vq, vf, vf, vq, vf, vf, vq, vf, vf, vq, vf, vf, vq, vf, vf, vq, vf, vf, vq, vf, vf, vq, vf, vf, vq, vf, vf, vq, vf, vf, vq, vf, vf, vq, vf, vf, vq, vf, vf, vq, vf, vf, vq, vf, vf, vq, vf, vf, vq, vf, vf, vq, vf, vf, vq, vf, vf, vq, vf, vf, vq, vf, vf, vq, vf, vf, vq, vf, vf, vq, vf, vf, vq, vf, vf, vq, vf, vf, vq, vf, vf, vq, vf, vf, vq, vf, vf, vq, vf, vf, vq, vf, vf, vq, vf, vf, vq, vf, vf, vq, vf, vf, vq, vf, vf, vq, vf, vf, vq, vf, vf, vq, vf, vf, vq, vf, vf, vq, vf, vf, vq, vf, vf, vq, vf, vf, vq, vf, vf, vq, vf, vf, vq, vf, vf, vq, vf, vf, vq, vf, vf, vq, vf, vf, vq, vf, vf, vq, vf, vf, vq, vf, vf, vq, vf, vf, vq, vf, vf, vq, vf, vf, vq, vf, vf, vq, vf, vf, vq, vf, vf, vq, vf, vf, vq, vf, vf, vq, vf, vf, vq, vf, vf, vq, vf, vf, vq, vf, vf, vi 400, vi 16, vi 64, vi 64, vi 1073741824, vi 1, vq, vp 4 0, vp 5 0, vp 6 0, vp 7 0] 144
abbrev tcc : AObj := .cells [vi 1, vi 16, vi 255, vi 2, vq, vq, vq, vq, vq, vq, vq, vq, vq, vq, vq, vq, vq, vq, vq, vq, vq, vq, vq, vq, vq, vq, vq, vq, vq, vq, vq, vq, vq, vq, vq, vq, vq, vq, vq, vq, vq, vq, vq, vq, vq, vq, vq, vq, vq, vq, vq, vq, vq, vq, vq, vq, vq, vq, vq, vq, vq, vq, vq, vq, vq, vq, vq, vq, vq, vq, vq, vq, vq, vq, vq, vq, vq, vq, vq, vq, vq, vq, vq, vq, vq, vi 1, vi 3, vi 3, vi 2, vq, vq, vq, vq, vq, vq, vq, vq, vq, vq, vq, vq, vq, vq, vq, vq] 107
abbrev tcd : AObj := .cells [vi 1, vi 1, vq, vq, vq, vq, vq, vq, vq, vq, vq, vq, vq, vq, vq, vq, vq, vq, vq, vq, vq, vq, vq, vq, vq, vq, vq, vq, vq, vq, vq, vq, vq, vq, vq, vq, vq, vq, vq, vq, vq, vq, vq, vq, vq, vq, vq, vq, vq, vq, vq, vq, vq, vq, vq, vq, vq, vq, vq, vq, vq, vq, vq, vq, vq] 198
abbrev tce : AObj := .cells [vi 1, vi 16, vi 255, vi 2, vq, vq, vq, vq, vq, vq, vq, vq, vq, vq, vq, vq, vq, vq, vq, vq, vq, vq, vq, vq, vq, vq, vq, vq, vq, vq, vq, vq, vq, vq, vq, vq, vq, vq, vq, vq, vq, vq, vq, vq, vq, vq, vq, vq, vq, vq, vq, vq, vq, vq, vq, vq, vq, vq, vq, vq, vq, vq, vq, vq, vq, vq, vq, vq, vq, vq, vq, vq, vq, vq, vq, vq, vq, vq, vq, vq, vq, vq, vq, vq, vq] 107
abbrev tcf : AObj := .cells [vi 1, vq, vf, vf, vq, vf, vf, vq, vf, vf, vq, vf, vf, vq, vf, vf, vq, vf, vf, vq, vf, vf, vq, vf, vf, vq, vf, vf, vq, vf, vf, vq, vf, vf, vq, vf, vf, vq, vf, vf, vq, vf, vf, vq, vf, vf, vq, vf, vf, vq, vf, vf, vq, vf, vf, vq, vf, vf, vq, vf, vf, vq, vf, vf, vq, vf, vf, vq, vf, vf, vq, vf, vf, vq, vf, vf, vq, vf, vf, vq, vf, vf, vq, vf, vf, vq, vf, vf, vq, vf, vf, vq, vf, vf, vq, vf, vf, vq, vf, vf, vq, vf, vf, vq, vf, vf, vq, vf, vf, vq, vf, vf, vq, vf, vf, vq, vf, vf, vq, vf, vf, vq, vf, vf, vq, vf, vf, vq, vf, vf, vq, vf, vf, vq, vf, vf, vq, vf, vf, vq, vf, vf, vq, vf, vf, vq, vf, vf, vq, vf, vf, vq, vf, vf, vq, vf, vf, vq, vf, vf, vq, vf, vf, vq, vf, vf, vq, vf, vf, vq, vf, vf, vq, vf, vf, vq, vf, vf, vq, vf, vf, vq, vf, vf, vq, vf, vf, vq, vf, vf, vq, vf, vf, vi 400, vi 16, vi 64, vi 64, vi 1073741824, vi 1, vq, vp 6 0, vp 7 0, vp 8 0, vp 9 0] 144
abbrev tcg : AObj := .cells [vi 2, vi 2, vi 1048577, vi 1, vi 5, vi 1, vq, vi 1, vq, vi 1, vq, vi 1, vq, vi 1, vq, vi 1, vq, vq, vq, vq, vq, vf] 266
abbrev tch : AObj := .cells [vq, vq, vq, vq, vq, vq, vq, vq, vq, vq, vq, vq, vq, vq, vq, vq, vn, vq, vf, vf, vq, vq, vq, vq, vp 2 0, vq, Value.nilFunc] 230
abbrev tci : AObj := .cells [vq, vq, vq, vq, vq, vq, vq, vq, vq, vq, vq, vq, vq, vq, vq, vq] 193
abbrev tcj : AObj := .cells [vq, vq, vi 2, vi 1048594, vi 2, vq, vi 2, vq, vi 2, vq, vi 2, vq, vi 2, vq, vi 2, vq, vi 2, vq, vi 1, vq, vi 1, vq, vi 1, vq, vi 1, vq, vi 1, vq, vi 1, vq, vi 1, vq, vi 1, vq, vq, vq, vi 2, vq, vi 2, vq, vi 1, vi 5] 59
abbrev tck : AObj := .cells [vq, vq, vi 2, vq, vi 2, vq, vi 2, vq, vi 2, vq, vi 2, vq, vi 2, vq, vi 2, vq, vi 2, vq, vi 1, vq, vi 1, vq, vi 1, vq, vi 1, vq, vi 1, vq, vi 1, vq, vi 1, vq, vi 1, vq] 59
abbrev tcl : AObj := .cells [vp 2 0, vq, vs 13 0 31 31, Value.int .u32 (0 : Int), Value.int .i32 (0 : Int), Value.int .u32 (0 : Int), vn, vi 2, vi 1048577, vi 1, vi 5, vi 2, vq, vi 1, vq, vi 1, vq, vi 1, vq, vi 2, vi 1048594, vi 1, vq, vi 29, vn, vq, vq, vs 14 0 1 1, vp 15 0, vp 16 0, vi 3, vf, vn] 170
abbrev tcm : AObj := .cells [vi 1, vi 16, vi 255, vi 2, vq, vq, vq, vq, vq, vq, vq, vq, vq, vq, vq, vq, vq, vq, vq, vq, vq, vq, vq, vq, vq, vq, vq, vq, vq, vq, vq, vq, vq, vq, vq, vq, vq, vq, vq, vq, vq, vq, vq, vq, vq, vq, vq, vq, vq, vq, vq, vq, vq, vq, vq, vq, vq, vq, vq, vq, vq, vq, vq, vq, vq, vq, vq, vq, vq, vq, vq, vq, vq, vq, vq, vq, vq, vq, vq, vq, vq, vq, vq, vq, vq, vi 1, vi 3, vi 3, vi 1, vq, vq, vq, vq, vq, vq, vq, vq, vq, vq, vq, vq, vq, vq, vq, vq] 107
abbrev tcn : AObj := .cells [vi 1, vi 1, vT, vf, vq, vf, vf, vq, vf, vf, vq, vf, vf, vq, vf, vf, vq, vf, vf, vq, vf, vf, vq, vf, vf, vq, vf, vf, vq, vf, vf, vq, vf, vf, vq, vf, vf, vq, vf, vf, vq, vf, vf, vq, vf, vf, vq, vf, vf, vq, vf, vf, vq, vf, vf, vq, vf, vf, vq, vf, vf, vq, vf, vf, vq, vf, vf, vq, vf, vf, vq, vf, vf, vq, vf, vf, vq, vf, vf, vq, vf, vf, vq, vf, vf, vq, vf, vf, vq, vf, vf, vq, vf, vf, vq, vf, vf, vq, vf, vf, vq, vf, vf, vq, vf, vf, vq, vf, vf, vq, vf, vf, vq, vf, vf, vq, vf, vf, vq, vf, vf, vq, vf, vf, vq, vf, vf, vq, vf, vf, vq, vf, vf, vq, vf, vf, vq, vf, vf, vq, vf, vf, vq, vf, vf, vq, vf, vf, vq, vf, vf, vq, vf, vf, vq, vf, vf, vq, vf, vf, vq, vf, vf, vq, vf, vf, vq, vf, vf, vq, vf, vf, vq, vf, vf, vq, vf, vf, vq, vf, vf, vq, vf, vf, vq, vf, vf, vq, vf, vf, vq, vf, vf, vi 400, vi 16, vi 64, vi 64, vi 1073741824, vi 1, vq, vp 4 0, vp 5 0, vp 6 0, vp 7 0] 144
abbrev tco : AObj := .cells [vi 1, vi 1, vT, vf, vq, vf, vf, vq, vf, vf, vq, vf, vf, vq, vf, vf, vq, vf, vf, vq, vf, vf, vq, vf, vf, vq, vf, vf, vq, vf, vf, vq, vf, vf, vq, vf, vf, vq, vf, vf, vq, vf, vf, vq, vf, vf, vq, vf, vf, vq, vf, vf, vq, vf, vf, vq, vf, vf, vq, vf, vf, vq, vf, vf, vq, vf, vf, vq, vf, vf, vq, vf, vf, vq, vf, vf, vq, vf, vf, vq, vf, vf, vq, vf, vf, vq, vf, vf, vq, vf, vf, vq, vf, vf, vq, vf, vf, vq, vf, vf, vq, vf, vf, vq, vf, vf, vq, vf, vf, vq, vf, vf, vq, vf, vf, vq, vf, vf, vq, vf, vf, vq, vf, vf, vq, vf, vf, vq, vf, vf, vq, vf, vf, vq, vf, vf, vq, vf, vf, vq, vf, vf, vq, vf, vf, vq, vf, vf, vq, vf, vf, vq, vf, vf, vq, vf, vf, vq, vf, vf, vq, vf, vf, vq, vf, vf, vq, vf, vf, vq, vf, vf, vq, vf, vf, vq, vf, vf, vq, vf, vf, vq, vf, vf, vq, vf, vf, vq, vf, vf, vq, vf, vf, vi 400, vi 16, vi 64, vi 64, vi 1073741824, vi 1, vq, vp 6 0, vp 7 0, vp 8 0, vp 9 0] 144
abbrev tcp : AObj := .cells [vi 1, vq, vf, vf, vq, vf, vf, vq, vf, vf, vq, vf, vf, vq, vf, vf, vq, vf, vf, vq, vf, vf, vq, vf, vf, vq, vf, vf, vq, vf, vf, vq, vf, vf, vq, vf, vf, vq, vf, vf, vq, vf, vf, vq, vf, vf, vq, vf, vf, vq, vf, vf, vq, vf, vf, vq, vf, vf, vq, vf, vf, vq, vf, vf, vq, vf, vf, vq, vf, vf, vq, vf, vf, vq, vf, vf, vq, vf, vf, vq, vf, vf, vq, vf, vf, vq, vf, vf, vq, vf, vf, vq, vf, vf, vq, vf, vf, vq, vf, vf, vq, vf, vf, vq, vf, vf, vq, vf, vf, vq, vf, vf, vq, vf, vf, vq, vf, vf, vq, vf, vf, vq, vf, vf, vq, vf, vf, vq, vf, vf, vq, vf, vf, vq, vf, vf, vq, vf, vf, vq, vf, vf, vq, vf, vf, vq, vf, vf, vq, vf, vf, vq, vf, vf, vq, vf, vf, vq, vf, vf, vq, vf, vf, vq, vf, vf, vq, vf, vf, vq, vf, vf, vq, vf, vf, vq, vf, vf, vq, vf, vf, vq, vf, vf, vq, vf, vf, vq, vf, vf, vq, vf, vf, vi 400, vi 16, vi 64, vi 64, vi 1073741824, vi 1, vq, vp 4 0, vp 5 0, vp 6 0, vp 7 0] 144
abbrev tcq : AObj := .cells [vi 2, vi 1048594, vi 2, vi 1, vq, vf, vq, vi 2, vi 1048594, vi (-1 : Int), vq, vq, vT, vi 1, vi 2, vi 1048577, vq, vi 2, vq, vf, vq] 357
abbrev tcr : AObj := .cells [vi 1, vi 2, vq, vq, vq, vq, vq, vq, vq, vq, vq, vq, vq, vq, vq, vq, vq, vq, vq, vq, vq, vq, vq, vq, vq, vq, vq, vq, vq, vq, vq, vq, vq, vq, vq, vq, vq, vq, vq, vq, vq, vq, vq, vq, vq, vq, vq, vq, vq, vq, vq, vq, vq, vq, vq, vq, vq, vq, vq, vq, vq, vq, vq, vq, vq] 198
abbrev tcs : AObj := .cells [vp 2 0, vq, vs 13 0 31 31, Value.int .u32 (0 : Int), Value.int .i32 (0 : Int), Value.int .u32 (0 : Int), vn, vi 2, vi 1048577, vi 1, vi 5, vi 1, vq, vi 1, vq, vi 1, vq, vi 1, vq, vi 1, vq, vi 1, vq, vi 3, vn, vq, vq, vs 14 0 1 1, vp 15 0, vp 16 0, vi 3, vf, vn] 170
abbrev tct : AObj := .cells [vq, vq, vi 2, vq, vi 2, vq, vi 2, vq, vi 2, vq, vi 2, vq, vi 2, vq, vi 2, vq, vi 2, vq, vi 1, vq, vi 1, vq, vi 1, vq, vi 1, vq, vi 1, vq, vi 1, vq, vi 1, vq, vi 1, vq, vq, vq, vi 2, vq, vi 2, vq, vi 1, vi 5] 59
abbrev tcu : AObj := .cells [vq, vi 1, vq, vq, vq, vq, vq, vq, vq, vq, vq, vq, vq, vq, vq, vq] 193
abbrev tcv : AObj := .cells [vp 3 0, vq, vs 15 0 31 31, Value.int .u32 (0 : Int), Value.int .i32 (0 : Int), Value.int .u32 (0 : Int), vn, vi 2, vi 1048577, vi 1, vi 5, vi 2, vq, vi 1, vq, vi 1, vq, vi 1, vq, vi 2, vi 1048594, vi 1, vq, vi 30, vn, vq, vq, vs 16 0 1 1, vp 17 0, vp 18 0, vi 3, vf, vn] 170
abbrev tcw : AObj := .cells [vi 400, vs 9 0 17 17, vs 10 0 17 17, vn, vn, vn, vn, vn, vn, vn, vn, vn, vn, vn, vn, vn, vn, vn, vn, vn] 184
abbrev tcx : AObj := .cells [vi 64, vn, Value.int .u32 (0 : Int), Value.int .i32 (0 : Int), Value.int .u32 (0 : Int), Value.map none] 247
abbrev tcy : AObj := .cells [vi 400, vs 9 0 21 21, vs 10 0 21 21, vn, vn, vn, vn, vn, vn, vn, vn, vn, vn, vn, vn, vn, vn, vn, vn, vn] 184
abbrev tcz : AObj := .cells [vi 1, vq, vf, vf, vq, vf, vf, vq, vf, vf, vq, vf, vf, vq, vf, vf, vq, vf, vf, vq, vf, vf, vq, vf, vf, vq, vf, vf, vq, vf, vf, vq, vf, vf, vq, vf, vf, vq, vf, vf, vq, vf, vf, vq, vf, vf, vq, vf, vf, vq, vf, vf, vq, vf, vf, vq, vf, vf, vq, vf, vf, vq, vf, vf, vq, vf, vf, vq, vf, vf, vq, vf, vf, vq, vf, vf, vq, vf, vf, vq, vf, vf, vq, vf, vf, vq, vf, vf, vq, vf, vf, vq, vf, vf, vq, vf, vf, vq, vf, vf, vq, vf, vf, vq, vf, vf, vq, vf, vf, vq, vf, vf, vq, vf, vf, vq, vf, vf, vq, vf, vf, vq, vf, vf, vq, vf, vf, vq, vf, vf, vq, vf, vf, vq, vf, vf, vq, vf, vf, vq, vf, vf, vq, vf, vf, vq, vf, vf, vq, vf, vf, vq, vf, vf, vq, vf, vf, vq, vf, vf, vq, vf, vf, vq, vf, vf, vq, vf, vf, vq, vf, vf, vq, vf, vf, vq, vf, vf, vq, vf, vf, vq, vf, vf, vq, vf, vf, vq, vf, vf, vq, vf, vf, vi 400, vi 16, vi 64, vi 64, vi 1073741824, vi 1, vq, vp 3 0, vp 4 0, vp 5 0, vp 6 0] 144
abbrev Zvy : AObj := .cells [vi 1, vq, vq, vq, vq, vq, vq, vq, vq, vq, vq, vq, vq, vq, vq, vq, vq, vq, vq, vq, vq, vq, vq, vq, vq, vq, vq, vq, vq, vq, vq, vq, vq, vq, vq, vq, vq, vq, vq, vq, vq, vq, vq, vq, vq, vq, vq, vq, vq, vq, vq, vq, vq, vq, vq, vq, vq, vq, vq, vq, vq, vq, vq, vq, vq] 198
abbrev ZlY : AObj := .cells [vq, vq, vq, vq, vq, vq, vq, vq, vq, vq, vq, vq, vq, vq, vq, vq, vn, vq, vf, vf, vq, vq, vq, vq, vp 3 0, vq, Value.nilFunc] 230
abbrev ZwU : AObj := .cells [vp 2 0, vq, vs 13 0 31 31, Value.int .u32 (0 : Int), Value.int .i32 (0 : Int), Value.int .u32 (0 : Int), vn, vi 2, vi 1048577, vi 1, vi 5, vi 2, vq, vi 1, vq, vi 1, vq, vi 1, vq, vi 2, vi 1048594, vi 1, vq, vi 30, vn, vq, vq, vs 14 0 1 1, vp 15 0, vp 16 0, vi 3, vf, vn] 170
abbrev tcad : AObj := .cells [vi 1, vq, vq, vq, vq, vq, vi 1, vq, vq, vq, vq, vq, vi 13, vq, vq, vq, vq, vi 3, vi 8, vq, vq, vq, vq, vi 3, vi 2, vq, vq, vq, vq, vi 3, vi 3, vq, vq, vq, vq, vi 3, vi 4, vq, vi 2, vi 1048577, vq, vi 3, vi 3, vq, vq, vq, vq, vi 3, vi 1, vq, vq, vq, vq, vq, vi 12, vq, vi 2, vi 1048594, vq, vi 3, vi 5, vq, vi 2, vi 1048594, vi 2, vi 3, vi 2, vq, vq, vq, vq, vi 3, vi 11, vq, vi 2, vi 1048594, vq, vi 3, vi 3, vq, vq, vq, vq, vi 3, vi 6, vq, vq, vq, vq, vi 3, vi 5, vq, vi 2, vi 1048577, vq, vi 3, vi 8, vq, vq, vq, vq, vi 3, vi 9, vq, vq, vq, vq, vi 3, vi 7, vq, vq, vq, vq, vi 3, vi 13, vq, vq, vq, vq, vi 3, vi 13, vq, vq, vq, vq, vi 3, vi 13, vq, vq, vq, vq, vi 3, vi 1, vq, vq, vq, vq, vq] 61
abbrev Za5 : AObj := .cells [vi 2, vi 1048594] 59
abbrev Zco : AObj := .cells [vs 11 0 16 16, vs 12 0 16 16] 190
abbrev Zcw : AObj := .cells [vi 2, vi 1048577, vq, vi 2, vq] 382
abbrev tcah : AObj := .cells [vi 1, vq, vq, vq, vq, vq, vi 1, vq, vq, vq, vq, vq, vi 13, vq, vq, vq, vq, vi 3, vi 8, vq, vq, vq, vq, vi 3, vi 2, vq, vq, vq, vq, vi 3, vi 3, vq, vq, vq, vq, vi 3, vi 4, vq, vi 2, vi 1048577, vq, vi 3, vi 3, vq, vq, vq, vq, vi 3, vi 1, vq, vq, vq, vq, vq, vi 12, vq, vi 2, vi 1048594, vq, vi 3, vi 5, vq, vi 2, vi 1048594, vi 2, vi 3, vi 2, vq, vq, vq, vq, vi 3, vi 11, vq, vi 2, vi 1048594, vq, vi 3, vi 3, vq, vq, vq, vq, vi 3, vi 6, vq, vq, vq, vq, vi 3, vi 5, vq, vi 2, vi 1048577, vq, vi 3, vi 8, vq, vq, vq, vq, vi 3, vi 9, vq, vq, vq, vq, vi 3, vi 7, vq, vq, vq, vq, vi 3, vi 13, vq, vq, vq, vq, vi 3, vi 13, vq, vq, vq, vq, vi 3, vi 13, vq, vq, vq, vq, vi 3] 61
abbrev ZoI : AObj := .cells [vi 64, vs 23 0 1 1, Value.int .u32 (1 : Int), Value.int .i32 (0 : Int), Value.int .u32 (0 : Int), Value.map (some 24)] 247
abbrev tcaj : AObj := .cells [vi 1, vq, vq, vq, vq, vq, vi 1, vq, vq, vq, vq, vq, vi 13, vq, vq, vq, vq, vi 3, vi 8, vq, vq, vq, vq, vi 3, vi 2, vq, vq, vq, vq, vi 3, vi 3, vq, vq, vq, vq, vi 3, vi 4, vq, vi 2, vi 1048577, vq, vi 3, vi 3, vq, vq, vq, vq, vi 3, vi 1, vq, vq, vq, vq, vq, vi 12, vq, vi 2, vi 1048594, vq, vi 3, vi 5, vq, vi 2, vi 1048594, vi 2, vi 3, vi 2, vq, vq, vq, vq, vi 3, vi 11, vq, vi 2, vi 1048594, vq, vi 3, vi 3, vq, vq, vq, vq, vi 3, vi 6, vq, vq, vq, vq, vi 3, vi 5, vq, vi 2, vi 1048577, vq, vi 3, vi 8, vq, vq, vq, vq, vi 3, vi 9, vq, vq, vq, vq, vi 3, vi 7, vq, vq, vq, vq, vi 3, vi 13, vq, vq, vq, vq, vi 3, vi 13, vq, vq, vq, vq, vi 3] 61
abbrev ZlZ : AObj := .cells [vi 400, vs 11 0 21 21, vs 12 0 21 21, vn, vn, vn, vn, vn, vn, vn, vn, vn, vn, vn, vn, vn, vn, vn, vn, vn] 184
abbrev tcal : AObj := .cells [vi 1, vq, vq, vq, vq, vq, vi 1, vq, vq, vq, vq, vq, vi 13, vq, vq, vq, vq, vi 3, vi 8, vq, vq, vq, vq, vi 3, vi 2, vq, vq, vq, vq, vi 3, vi 3, vq, vq, vq, vq, vi 3, vi 4, vq, vi 2, vi 1048577, vq, vi 3, vi 3, vq, vq, vq, vq, vi 3, vi 1, vq, vq, vq, vq, vq, vi 12, vq, vi 2, vi 1048594, vq, vi 3, vi 5, vq, vi 2, vi 1048594, vi 2, vi 3, vi 2, vq, vq, vq, vq, vi 3, vi 11, vq, vi 2, vi 1048594, vq, vi 3, vi 3, vq, vq, vq, vq, vi 3, vi 6, vq, vq, vq, vq, vi 3, vi 5, vq, vi 2, vi 1048577, vq, vi 3, vi 8, vq, vq, vq, vq, vi 3, vi 9, vq, vq, vq, vq, vi 3, vi 7, vq, vq, vq, vq, vi 3, vi 13, vq, vq, vq, vq, vi 3] 61
abbrev tcam : AObj := .cells [vi 1, vq, vq, vq, vq, vq, vi 1, vq, vq, vq, vq, vq, vi 13, vq, vq, vq, vq, vi 3, vi 8, vq, vq, vq, vq, vi 3, vi 2, vq, vq, vq, vq, vi 3, vi 3, vq, vq, vq, vq, vi 3, vi 4, vq, vi 2, vi 1048577, vq, vi 3, vi 3, vq, vq, vq, vq, vi 3, vi 1, vq, vq, vq, vq, vq, vi 12, vq, vi 2, vi 1048594, vq, vi 3, vi 5, vq, vi 2, vi 1048594, vi 2, vi 3, vi 2, vq, vq, vq, vq, vi 3, vi 11, vq, vi 2, vi 1048594, vq, vi 3, vi 3, vq, vq, vq, vq, vi 3, vi 6, vq, vq, vq, vq, vi 3, vi 5, vq, vi 2, vi 1048577, vq, vi 3, vi 8, vq, vq, vq, vq, vi 3, vi 9, vq, vq, vq, vq, vi 3, vi 7, vq, vq, vq, vq, vi 3] 61
abbrev Zqs : AObj := .cells [vi 64, vs 24 0 1 1, Value.int .u32 (1 : Int), Value.int .i32 (0 : Int), Value.int .u32 (0 : Int), Value.map (some 25)] 247
abbrev tcao : AObj := .cells [vi 1, vq, vq, vq, vq, vq, vi 1, vq, vq, vq, vq, vq, vi 13, vq, vq, vq, vq, vi 3, vi 8, vq, vq, vq, vq, vi 3, vi 2, vq, vq, vq, vq, vi 3, vi 3, vq, vq, vq, vq, vi 3, vi 4, vq, vi 2, vi 1048577, vq, vi 3, vi 3, vq, vq, vq, vq, vi 3, vi 1, vq, vq, vq, vq, vq, vi 12, vq, vi 2, vi 1048594, vq, vi 3, vi 5, vq, vi 2, vi 1048594, vi 2, vi 3, vi 2, vq, vq, vq, vq, vi 3, vi 11, vq, vi 2, vi 1048594, vq, vi 3, vi 3, vq, vq, vq, vq, vi 3, vi 6, vq, vq, vq, vq, vi 3, vi 5, vq, vi 2, vi 1048577, vq, vi 3, vi 8, vq, vq, vq, vq, vi 3, vi 9, vq, vq, vq, vq, vi 3] 61
abbrev tcap : AObj := .cells [vi 1, vq, vq, vq, vq, vq, vi 1, vq, vq, vq, vq, vq, vi 13, vq, vq, vq, vq, vi 3, vi 8, vq, vq, vq, vq, vi 3, vi 2, vq, vq, vq, vq, vi 3, vi 3, vq, vq, vq, vq, vi 3, vi 4, vq, vi 2, vi 1048577, vq, vi 3, vi 3, vq, vq, vq, vq, vi 3, vi 1, vq, vq, vq, vq, vq, vi 12, vq, vi 2, vi 1048594, vq, vi 3, vi 5, vq, vi 2, vi 1048594, vi 2, vi 3, vi 2, vq, vq, vq, vq, vi 3, vi 11, vq, vi 2, vi 1048594, vq, vi 3, vi 3, vq, vq, vq, vq, vi 3, vi 6, vq, vq, vq, vq, vi 3, vi 5, vq, vi 2, vi 1048577, vq, vi 3, vi 8, vq, vq, vq, vq, vi 3] 61
abbrev Za6 : AObj := .cells [vi 1, vq] 261
abbrev tcar : AObj := .cells [vi 1, vq, vq, vq, vq, vq, vi 1, vq, vq, vq, vq, vq, vi 13, vq, vq, vq, vq, vi 3, vi 8, vq, vq, vq, vq, vi 3, vi 2, vq, vq, vq, vq, vi 3, vi 3, vq, vq, vq, vq, vi 3, vi 4, vq, vi 2, vi 1048577, vq, vi 3, vi 3, vq, vq, vq, vq, vi 3, vi 1, vq, vq, vq, vq, vq, vi 12, vq, vi 2, vi 1048594, vq, vi 3, vi 5, vq, vi 2, vi 1048594, vi 2, vi 3, vi 2, vq, vq, vq, vq, vi 3, vi 11, vq, vi 2, vi 1048594, vq, vi 3, vi 3, vq, vq, vq, vq, vi 3, vi 6, vq, vq, vq, vq, vi 3, vi 5, vq, vi 2, vi 1048577, vq, vi 3] 61
abbrev ZdC : AObj := .cells [vi 1073741824, vq, vi 1] 195
abbrev tcat : AObj := .cells [vi 1, vq, vq, vq, vq, vq, vi 1, vq, vq, vq, vq, vq, vi 13, vq, vq, vq, vq, vi 3, vi 8, vq, vq, vq, vq, vi 3, vi 2, vq, vq, vq, vq, vi 3, vi 3, vq, vq, vq, vq, vi 3, vi 4, vq, vi 2, vi 1048577, vq, vi 3, vi 3, vq, vq, vq, vq, vi 3, vi 1, vq, vq, vq, vq, vq, vi 12, vq, vi 2, vi 1048594, vq, vi 3, vi 5, vq, vi 2, vi 1048594, vi 2, vi 3, vi 2, vq, vq, vq, vq, vi 3, vi 11, vq, vi 2, vi 1048594, vq, vi 3, vi 3, vq, vq, vq, vq, vi 3, vi 6, vq, vq, vq, vq, vi 3] 61
abbrev ZzH : AObj := .cells [vf, vf, vq, vq, vq, vq, vn, vn, vn, vq, vq, vq, vq, vq, vq, vq, vq, vq, vq, Value.nilFunc, Value.nilFunc, Value.nilFunc, vq, vq, vq, vq, vf, vq, vq, vq, vn, vq, Value.nilFunc, vq, vq, vq, vn, vq, vq, vq, vp 2 0, vq, Value.nilFunc, vq, vf, vq, vp 16 0, vp 17 0, vp 18 0, vn, vq, vq, vq] 221
abbrev tcav : AObj := .cells [vi 1, vq, vq, vq, vq, vq, vi 1, vq, vq, vq, vq, vq, vi 13, vq, vq, vq, vq, vi 3, vi 8, vq, vq, vq, vq, vi 3, vi 2, vq, vq, vq, vq, vi 3, vi 3, vq, vq, vq, vq, vi 3, vi 4, vq, vi 2, vi 1048577, vq, vi 3, vi 3, vq, vq, vq, vq, vi 3, vi 1, vq, vq, vq, vq, vq, vi 12, vq, vi 2, vi 1048594, vq, vi 3, vi 5, vq, vi 2, vi 1048594, vi 2, vi 3, vi 2, vq, vq, vq, vq, vi 3, vi 11, vq, vi 2, vi 1048594, vq, vi 3, vi 3, vq, vq, vq, vq, vi 3] 61
abbrev tcaw : AObj := .cells [vi 1, vq, vq, vq, vq, vq, vi 1, vq, vq, vq, vq, vq, vi 13, vq, vq, vq, vq, vi 3, vi 8, vq, vq, vq, vq, vi 3, vi 2, vq, vq, vq, vq, vi 3, vi 3, vq, vq, vq, vq, vi 3, vi 4, vq, vi 2, vi 1048577, vq, vi 3, vi 3, vq, vq, vq, vq, vi 3, vi 1, vq, vq, vq, vq, vq, vi 12, vq, vi 2, vi 1048594, vq, vi 3, vi 5, vq, vi 2, vi 1048594, vi 2, vi 3, vi 2, vq, vq, vq, vq, vi 3, vi 11, vq, vi 2, vi 1048594, vq, vi 3] 61
abbrev Zvz : AObj := .cells [vi 64, vs 22 0 1 1, Value.int .u32 (1 : Int), Value.int .i32 (0 : Int), Value.int .u32 (0 : Int), Value.map (some 23)] 247
abbrev ZoJ : AObj := .cells [vq, vi 4, vq, vq, vq, vq, vq, vq, vq, vq, vq, vq, vq, vq, vq, vq] 193
abbrev tcaz : AObj := .cells [vi 1, vq, vq, vq, vq, vq, vi 1, vq, vq, vq, vq, vq, vi 13, vq, vq, vq, vq, vi 3, vi 8, vq, vq, vq, vq, vi 3, vi 2, vq, vq, vq, vq, vi 3, vi 3, vq, vq, vq, vq, vi 3, vi 4, vq, vi 2, vi 1048577, vq, vi 3, vi 3, vq, vq, vq, vq, vi 3, vi 1, vq, vq, vq, vq, vq, vi 12, vq, vi 2, vi 1048594, vq, vi 3, vi 5, vq, vi 2, vi 1048594, vi 2, vi 3, vi 2, vq, vq, vq, vq, vi 3] 61
abbrev Zma : AObj := .cells [vi 2, vq, vi 2, vi 3, vi 17, vi 18, vs 5 0 1 1, vq] 100
abbrev tcbb : AObj := .cells [vi 1, vq, vq, vq, vq, vq, vi 1, vq, vq, vq, vq, vq, vi 13, vq, vq, vq, vq, vi 3, vi 8, vq, vq, vq, vq, vi 3, vi 2, vq, vq, vq, vq, vi 3, vi 3, vq, vq, vq, vq, vi 3, vi 4, vq, vi 2, vi 1048577, vq, vi 3, vi 3, vq, vq, vq, vq, vi 3, vi 1, vq, vq, vq, vq, vq, vi 12, vq, vi 2, vi 1048594, vq, vi 3, vi 5, vq, vi 2, vi 1048594, vi 2, vi 3] 61
abbrev Zv0 : AObj := .cells [vi 2, vi 1048594, vi 2, vi 1, vq, vf, vq, vi 2, vi 1048594, vi (-1 : Int), vq, vq, vT, vi 1] 357
abbrev Zcp : AObj := .cells [vp 8 0] 93
abbrev tcbe : AObj := .cells [vi 1, vq, vq, vq, vq, vq, vi 1, vq, vq, vq, vq, vq, vi 13, vq, vq, vq, vq, vi 3, vi 8, vq, vq, vq, vq, vi 3, vi 2, vq, vq, vq, vq, vi 3, vi 3, vq, vq, vq, vq, vi 3, vi 4, vq, vi 2, vi 1048577, vq, vi 3, vi 3, vq, vq, vq, vq, vi 3, vi 1, vq, vq, vq, vq, vq, vi 12, vq, vi 2, vi 1048594, vq, vi 3] 61
abbrev tcbf : AObj := .cells [vT, vf, vq, vi 3, vi 4, vq, vn, vn, vn, vq, vq, vq, vq, vq, vq, vq, vq, vq, vq, Value.nilFunc, Value.nilFunc, Value.nilFunc, vq, vq, vq, vq, vf, vq, vq, vq, vn, vq, Value.nilFunc, vq, vq, vq, vn, vq, vq, vq, vp 2 0, vq, Value.nilFunc, vq, vf, vi 1, vp 17 0, vp 18 0, vp 19 0, vn, vq, vq, vq] 221
abbrev tcbg : AObj := .cells [vf, vf, vq, vq, vq, vq, vn, vn, vn, vq, vq, vq, vq, vq, vq, vq, vq, vq, vq, Value.nilFunc, Value.nilFunc, Value.nilFunc, vq, vq, vq, vq, vf, vq, vq, vq, vn, vq, Value.nilFunc, vq, vq, vq, vn, vq, vq, vq, vp 1 0, vq, Value.nilFunc, vq, vf, vq, vp 15 0, vp 16 0, vp 17 0, vn, vq, vq, vq] 221
abbrev ZcX : AObj := .cells [vT, vn] 254
abbrev tcbi : AObj := .cells [vp 2 0, vq, vs 13 0 31 31, Value.int .u32 (0 : Int), Value.int .i32 (0 : Int), Value.int .u32 (0 : Int), vn, vi 2, vi 1048577, vi 1, vi 5, vi 2, vq, vi 1, vq, vi 1, vq, vi 1, vq, vi 2, vi 1048594, vi 1, vq, vi 28, vn, vq, vq, vs 14 0 1 1, vp 15 0, vp 16 0, vi 3, vf, vn] 170
abbrev tcbj : AObj := .cells [vp 2 0, vq, vs 13 0 31 31, Value.int .u32 (0 : Int), Value.int .i32 (0 : Int), Value.int .u32 (0 : Int), vn, vi 2, vi 1048577, vi 1, vi 5, vi 2, vq, vi 1, vq, vi 1, vq, vi 1, vq, vi 1, vq, vi 1, vq, vi 27, vn, vq, vq, vs 14 0 1 1, vp 15 0, vp 16 0, vi 3, vf, vn] 170
abbrev tcbk : AObj := .cells [vp 2 0, vq, vs 13 0 31 31, Value.int .u32 (0 : Int), Value.int .i32 (0 : Int), Value.int .u32 (0 : Int), vn, vi 2, vi 1048577, vi 1, vi 5, vi 2, vq, vi 1, vq, vi 1, vq, vi 1, vq, vi 1, vq, vi 1, vq, vi 4, vn, vq, vq, vs 14 0 1 1, vp 15 0, vp 16 0, vi 3, vf, vn] 170
abbrev tcbl : AObj := .cells [vp 3 0, vq, vs 15 0 31 31, Value.int .u32 (0 : Int), Value.int .i32 (0 : Int), Value.int .u32 (0 : Int), vn, vi 2, vi 1048577, vi 1, vi 5, vi 2, vq, vi 1, vq, vi 1, vq, vi 1, vq, vi 2, vi 1048594, vi 1, vq, vi 31, vn, vi 2, vq, vn, vp 16 0, vp 17 0, vq, vf, vn] 170
abbrev tcbm : AObj := .cells [vi 1, vq, vq, vq, vq, vq, vi 1, vq, vq, vq, vq, vq, vi 13, vq, vq, vq, vq, vi 3, vi 8, vq, vq, vq, vq, vi 3, vi 2, vq, vq, vq, vq, vi 3, vi 3, vq, vq, vq, vq, vi 3, vi 4, vq, vi 2, vi 1048577, vq, vi 3, vi 3, vq, vq, vq, vq, vi 3, vi 1, vq, vq, vq, vq, vq] 61
abbrev ZiG : AObj := .cells [vi 1073741824, vi 1, vi 1] 195
abbrev tcbo : AObj := .cells [vp 2 0, vq, vs 13 0 31 31, Value.int .u32 (0 : Int), Value.int .i32 (0 : Int), Value.int .u32 (0 : Int), vn, vi 2, vi 1048577, vi 1, vi 5, vi 1, vq, vi 1, vq, vi 1, vq, vi 1, vq, vi 1, vq, vi 1, vq, vi 2, vn, vq, vq, vn, vp 14 0, vp 15 0, vq, vf, vn] 170
abbrev Zyv : AObj := .cells [vi 64, vs 21 0 1 1, Value.int .u32 (1 : Int), Value.int .i32 (0 : Int), Value.int .u32 (0 : Int), Value.map (some 22)] 247
abbrev Zf6 : AObj := .cells [vi 64, vn] 250
abbrev tcbr : AObj := .cells [vi 1, vq, vq, vq, vq, vq, vi 1, vq, vq, vq, vq, vq, vi 13, vq, vq, vq, vq, vi 3, vi 8, vq, vq, vq, vq, vi 3, vi 2, vq, vq, vq, vq, vi 3, vi 3, vq, vq, vq, vq, vi 3, vi 4, vq, vi 2, vi 1048577, vq, vi 3, vi 3, vq, vq, vq, vq, vi 3] 61
abbrev Zmb : AObj := .cells [vs 13 0 16 16, vs 14 0 16 16] 190
abbrev tcbt : AObj := .cells [vq, vq, vi 2, vq, vi 2, vq, vi 2, vq, vi 2, vq, vi 2, vq, vi 2, vq, vi 2, vq, vi 2, vq, vi 1, vq, vi 1, vq, vi 1, vq, vi 1, vq, vi 1, vq, vi 1, vq, vi 1, vq, vi 1, vq, vq, vq, vi 2, vq, vi 2, vq, vi 1, vq] 59
abbrev tcbu : AObj := .cells [vi 1, vq, vq, vq, vq, vq, vi 1, vq, vq, vq, vq, vq, vi 13, vq, vq, vq, vq, vi 3, vi 8, vq, vq, vq, vq, vi 3, vi 2, vq, vq, vq, vq, vi 3, vi 3, vq, vq, vq, vq, vi 3, vi 4, vq, vi 2, vi 1048577, vq, vi 3] 61
abbrev tcbv : AObj := .cells [vi 1, vq, vq, vq, vq, vq, vi 1, vq, vq, vq, vq, vq, vi 13, vq, vq, vq, vq, vi 3, vi 8, vq, vq, vq, vq, vi 3, vi 2, vq, vq, vq, vq, vi 3, vi 3, vq, vq, vq, vq, vi 3] 61
abbrev tcbw : AObj := .cells [vi 1, vq, vq, vq, vq, vq, vi 1, vq, vq, vq, vq, vq, vi 13, vq, vq, vq, vq, vi 3, vi 8, vq, vq, vq, vq, vi 3, vi 2, vq, vq, vq, vq, vi 3] 61
abbrev Zqt : AObj := .cells [vi 64, vs 26 0 3 3] 250
abbrev tcby : AObj := .cells [vq, vq, vq, vq, vq, vq, vq, vq, vq, vq, vq, vq, vq, vq, vq, vq, vn, vq, vf, vf, vq, vq, vq, vq, vp 1 0, vq, Value.nilFunc] 230
abbrev tcbz : AObj := .cells [vi 64, vs 25 0 1 1, Value.int .u32 (1 : Int), Value.int .i32 (0 : Int), Value.int .u32 (0 : Int), Value.map (some 26)] 247
abbrev tcca : AObj := .cells [vi 1, vq, vq, vq, vq, vq, vi 1, vq, vq, vq, vq, vq, vi 13, vq, vq, vq, vq, vi 3, vi 8, vq, vq, vq, vq, vi 3] 61
abbrev tccb : AObj := .cells [vi 400, vs 8 0 17 17, vs 9 0 17 17, vn, vn, vn, vn, vn, vn, vn, vn, vn, vn, vn, vn, vn, vn, vn, vn, vn] 184
abbrev Zsi : AObj := .cells [vT, vs 27 0 0 1] 254
abbrev Zyw : AObj := .cells [vi 2, vi 1048594, vi 2, vi 1, vq, vf, vq] 357
abbrev Zmc : AObj := .cells [vp 10 0] 93
abbrev Zv1 : AObj := .cells [vi 1073741824, vq, vq] 195
abbrev tccg : AObj := .cells [vi 1, vq, vq, vq, vq, vq, vi 1, vq, vq, vq, vq, vq, vi 13, vq, vq, vq, vq, vi 3] 61
abbrev ZwV : AObj := .cells [vi 64, vs 25 0 2 2] 250
abbrev Zyx : AObj := .cells [vT, vs 26 0 1 1] 254
noncomputable def Zsj  : ZA → Value
 | .r0 => vT
noncomputable def ZqX  : ZA → List (Option AObj)
 | .r0 => []

def ZvY : Ze → Nat
 | .h1m0 => 1
 | .h1m1 => 1
 | .h1m2 => 1
 | .h1m3 => 1
 | .h1m4 => 1
 | .h1m5 => 1
 | .h1m6 => 1
 | .h1m7 => 1
 | .h1m8 => 1
 | .h1m9 => 1
 | .h1m10 => 1
 | .h1m11 => 1
 | .h1m12 => 1
 | .h1m13 => 1
 | .h1m14 => 1
 | .h1m15 => 1
 | .h1m16 => 1
 | .h1m17 => 1
 | .h1m18 => 1
 | .h1m19 => 1
 | .h1m20 => 1
 | .h1m21 => 1
 | .h1m22 => 1
 | .h1m23 => 1
noncomputable def ZwW  : Ze → List (Nat × Value)
 | .h1m0 => [(3, vp 0 0), (7, vq)]
 | .h1m1 => [(3, vp 0 0), (7, vi 1)]
 | .h1m2 => [(3, vp 0 0), (7, vi 2)]
 | .h1m3 => [(3, vp 0 0), (7, vi 3)]
 | .h1m4 => [(3, vp 0 0), (7, vi 4)]
 | .h1m5 => [(3, vp 0 0), (7, vi 5)]
 | .h1m6 => [(3, vp 0 0), (7, vi 6)]
 | .h1m7 => [(3, vp 0 0), (7, vi 7)]
 | .h1m8 => [(3, vp 0 0), (7, vi 8)]
 | .h1m9 => [(3, vp 0 0), (7, vi 9)]
 | .h1m10 => [(3, vp 0 0), (7, vi 10)]
 | .h1m11 => [(3, vp 0 0), (7, vi 11)]
 | .h1m12 => [(3, vp 0 0), (7, vi 12)]
 | .h1m13 => [(3, vp 0 0), (7, vi 13)]
 | .h1m14 => [(3, vp 0 0), (7, vi 14)]
 | .h1m15 => [(3, vp 0 0), (7, vi 15)]
 | .h1m16 => [(3, vp 0 0), (7, vi 16)]
 | .h1m17 => [(3, vp 0 0), (7, vi 17)]
 | .h1m18 => [(3, vp 0 0), (7, vi 18)]
 | .h1m19 => [(3, vp 0 0), (7, vi 19)]
 | .h1m20 => [(3, vp 0 0), (7, vi 20)]
 | .h1m21 => [(3, vp 0 0), (7, vi 21)]
 | .h1m22 => [(3, vp 0 0), (7, vi 22)]
 | .h1m23 => [(3, vp 0 0), (7, vi 23)]
noncomputable def ZwX  : Ze → List (Option AObj)
 | .h1m0 => [some (.cells [vn, vn, vp 1 0, vs 2 0 1 1] 92), some (tcz), some (.cells [vp 7 0] 93), some (tccb), some (.cells [vs 10 0 16 16, vs 11 0 16 16] 190), some (Zv1), some (Zvy), some (.cells [vp 1 0, vq, vs 12 0 31 31, Value.int .u32 (0 : Int), Value.int .i32 (0 : Int), Value.int .u32 (0 : Int), vn, vi 1, vq, vi 1, vq, vi 1, vq, vi 1, vq, vi 1, vq, vi 1, vq, vi 1, vq, vi 1, vq, vq, vn, vq, vq, vn, vp 13 0, vp 14 0, vq, vf, vn] 170), some (tce), some (tck), some (tci), some (tci), some (tca), some (tcbg), some (tcby), some (tcx), some (Zf6), some (ZcX)]
 | .h1m1 => [some (.cells [vs 1 0 1 1, vn, vp 2 0, vs 3 0 1 1] 92), some (.cells [vi 1, vq, vq, vq, vq, vq] 61), some (tcp), some (Zcp), some (tcw), some (Zco), some (Zv1), some (Zvy), some (.cells [vp 2 0, vq, vs 13 0 31 31, Value.int .u32 (0 : Int), Value.int .i32 (0 : Int), Value.int .u32 (0 : Int), vn, vi 2, vi 1048577, vi 1, vq, vi 1, vq, vi 1, vq, vi 1, vq, vi 1, vq, vi 1, vq, vi 1, vq, vi 1, vn, vq, vq, vn, vp 14 0, vp 15 0, vq, vf, vn] 170), some (tce), some (tck), some (tci), some (tci), some (tca), some (ZzH), some (tch), some (tcx), some (Zf6), some (ZcX)]
 | .h1m2 => [some (.cells [vs 1 0 2 2, vn, vp 2 0, vs 3 0 1 1] 92), some (.cells [vi 1, vq, vq, vq, vq, vq, vi 1, vq, vq, vq, vq, vq] 61), some (tcp), some (Zcp), some (tcw), some (Zco), some (Zv1), some (Zvy), some (tcbo), some (tce), some (tck), some (tci), some (tci), some (tca), some (ZzH), some (tch), some (tcx), some (Zf6), some (ZcX)]
 | .h1m3 => [some (.cells [vs 1 0 3 3, vn, vp 2 0, vs 3 0 1 1] 92), some (tccg), some (tcb), some (Zcp), some (tcw), some (Zco), some (ZdC), some (tcd), some (.cells [vp 2 0, vq, vs 13 0 31 31, Value.int .u32 (0 : Int), Value.int .i32 (0 : Int), Value.int .u32 (0 : Int), vn, vi 2, vi 1048577, vi 1, vi 5, vi 1, vq, vi 1, vq, vi 1, vq, vi 1, vq, vi 1, vq, vi 1, vq, vi 2, vn, vq, vq, vs 14 0 1 1, vp 15 0, vp 16 0, vi 3, vf, vn] 170), some (tce), some (tck), some (tci), some (tci), some (tca), some (tcg), some (.cells [vT, vf, vq, vi 3, vq, vq, vn, vn, vn, vq, vq, vq, vq, vq, vq, vq, vq, vq, vq, Value.nilFunc, Value.nilFunc, Value.nilFunc, vq, vq, vq, vq, vf, vq, vq, vq, vn, vq, Value.nilFunc, vq, vq, vq, vn, vq, vq, vq, vp 2 0, vq, Value.func (.func 216) #[vp 15 0] #[], vq, vf, vi 1, vp 17 0, vp 18 0, vp 19 0, vn, vq, vq, vq] 221), some (tch), some (tcx), some (Zf6), some (ZcX)]
 | .h1m4 => [some (.cells [vs 1 0 4 4, vn, vp 2 0, vs 3 0 1 1] 92), some (tcca), some (tcb), some (Zcp), some (tcw), some (Zco), some (ZdC), some (tcd), some (tcs), some (tce), some (tck), some (tci), some (tci), some (tca), some (tcg), some (tcbf), some (tch), some (tcx), some (Zf6), some (ZcX)]
 | .h1m5 => [some (.cells [vs 1 0 5 5, vn, vp 2 0, vs 3 0 1 1] 92), some (tcbw), some (tcb), some (Zcp), some (tcw), some (Zco), some (ZdC), some (tcd), some (tcs), some (tce), some (tck), some (tci), some (tci), some (tca), some (tcg), some (.cells [vT, vf, vq, vi 3, vi 4, vq, vn, vn, vn, vi 2, vi 1048577, vq, vq, vq, vq, vq, vq, vq, vq, Value.func (.func 188) #[vp 15 0] #[], Value.func (.func 189) #[vp 15 0] #[], Value.func (.func 189) #[vp 15 0] #[], vi 1, vq, vq, vq, vf, vq, vq, vq, vn, vq, Value.nilFunc, vq, vq, vq, vn, vq, vq, vq, vp 2 0, vq, Value.func (.func 236) #[vp 15 0] #[], vq, vT, vi 1, vp 17 0, vp 18 0, vp 19 0, vn, vq, vq, vq] 221), some (tch), some (tcx), some (Zf6), some (ZcX)]
 | .h1m6 => [some (.cells [vs 1 0 6 6, vn, vp 2 0, vs 3 0 1 1] 92), some (tcbv), some (tcb), some (Zcp), some (tcw), some (Zco), some (ZdC), some (tcd), some (tcs), some (tce), some (tck), some (tci), some (tci), some (tca), some (tcg), some (.cells [vT, vf, vq, vi 3, vi 4, vq, vn, vn, vn, vi 2, vi 1048577, vq, vq, vq, vq, vq, vq, vq, vq, Value.func (.func 188) #[vp 15 0] #[], Value.func (.func 189) #[vp 15 0] #[], Value.func (.func 189) #[vp 15 0] #[], vi 1, vq, vq, vq, vf, vq, vq, vq, vn, vq, Value.nilFunc, vq, vq, vq, vn, vq, vq, vq, vp 2 0, vq, Value.func (.func 189) #[vp 15 0] #[], vq, vT, vi 1, vp 17 0, vp 18 0, vp 19 0, vn, vq, vq, vq] 221), some (tch), some (tcx), some (Zf6), some (ZcX)]
 | .h1m7 => [some (.cells [vs 1 0 7 7, vn, vp 2 0, vs 3 0 1 1] 92), some (tcbu), some (tcb), some (Zcp), some (tcw), some (Zco), some (ZdC), some (tcd), some (tcs), some (tce), some (tck), some (tci), some (tci), some (tca), some (tcg), some (.cells [vT, vf, vq, vi 3, vi 4, vq, vn, vn, vn, vi 2, vi 1048577, vq, vq, vq, vq, vq, vq, vq, vq, Value.func (.func 188) #[vp 15 0] #[], Value.func (.func 189) #[vp 15 0] #[], Value.func (.func 189) #[vp 15 0] #[], vi 1, vq, vq, vq, vf, vi 2, vq, vq, vn, vq, Value.nilFunc, vq, vq, vq, vn, vq, vq, vq, vp 2 0, vq, Value.func (.func 239) #[vp 15 0] #[], vq, vT, vi 1, vp 17 0, vp 18 0, vp 19 0, vn, vq, vq, vq] 221), some (tch), some (tcx), some (Zf6), some (ZcX)]
 | .h1m8 => [some (.cells [vs 1 0 8 8, vn, vp 2 0, vs 3 0 1 1] 92), some (tcbr), some (tcb), some (Zcp), some (tcw), some (Zco), some (ZdC), some (tcd), some (tcbk), some (tce), some (tck), some (tci), some (tci), some (tca), some (tcg), some (.cells [vT, vf, vq, vi 3, vi 4, vq, vs 17 0 1 1, vn, vn, vi 2, vi 1048577, vq, vq, vq, vq, vq, vq, vq, vq, Value.func (.func 188) #[vp 15 0] #[], Value.func (.func 189) #[vp 15 0] #[], Value.func (.func 189) #[vp 15 0] #[], vi 1, vq, vq, vq, vf, vi 2, vq, vq, vn, vq, Value.nilFunc, vq, vq, vq, vn, vq, vq, vq, vp 2 0, vq, Value.nilFunc, vq, vT, vi 1, vp 18 0, vp 19 0, vp 20 0, vn, vi 2, vq, vq] 221), some (tch), some (Zcw), some (Zyv), some (Zf6), some (ZcX), some (Za6), some (.ro (Zaa ([(⟨(1 : Int), (0 : Int)⟩ : R_ii)] : List R_ii)) true)]
 | .h1m9 => [some (.cells [vs 1 0 9 9, vn, vp 2 0, vs 3 0 1 1] 92), some (tcbm), some (tcb), some (Zcp), some (tcw), some (Zco), some (ZdC), some (tcd), some (tcbj), some (tce), some (tck), some (tci), some (tci), some (tca), some (tcg), some (.cells [vT, vf, vq, vi 3, vi 4, vq, vs 17 0 1 1, vn, vn, vi 2, vi 1048577, vq, vq, vq, vq, vq, vq, vq, vq, Value.func (.func 188) #[vp 15 0] #[], Value.func (.func 189) #[vp 15 0] #[], Value.func (.func 189) #[vp 15 0] #[], vi 1, vq, vq, vq, vf, vi 2, vq, vq, vn, vq, Value.nilFunc, vq, vq, vq, vn, vq, vq, vq, vp 2 0, vq, Value.nilFunc, vq, vT, vi 1, vp 18 0, vp 19 0, vp 20 0, vn, vi 2, vq, vq] 221), some (tch), some (Zcw), some (Zyv), some (Zf6), some (ZcX), some (Za6), some (.ro (Zaa ([(⟨(1 : Int), (0 : Int)⟩ : R_ii)] : List R_ii)) true)]
 | .h1m10 => [some (.cells [vs 1 0 10 10, vn, vp 2 0, vs 3 0 1 1] 92), some (tcbe), some (tcb), some (Zcp), some (tcy), some (Zco), some (ZdC), some (tcd), some (tcbi), some (tcm), some (tcbt), some (tci), some (tci), some (tca), some (tcg), some (.cells [vT, vf, vq, vi 3, vi 4, vq, vs 17 0 1 1, vs 18 0 1 1, vn, vq, vq, vq, vq, vq, vi 3, vi 3, vq, vq, vq, Value.nilFunc, Value.nilFunc, Value.nilFunc, vq, vq, vq, vq, vf, vq, vq, vq, vn, vq, Value.nilFunc, vq, vq, vq, vn, vq, vq, vq, vp 2 0, vq, Value.nilFunc, vq, vT, vi 1, vp 19 0, vp 20 0, vp 21 0, vn, vi 2, vi 1048594, vq] 221), some (tch), some (Zcw), some (Za5), some (Zvz), some (Zf6), some (ZcX), some (Za6), some (.ro (Zaa ([(⟨(1 : Int), (0 : Int)⟩ : R_ii)] : List R_ii)) true)]
 | .h1m11 => [some (.cells [vs 1 0 11 11, vn, vp 2 0, vs 3 0 1 1] 92), some (tcbb), some (tcb), some (Zcp), some (tcy), some (Zco), some (ZdC), some (tcd), some (tcl), some (tcm), some (tct), some (tci), some (tci), some (tca), some (tcg), some (.cells [vT, vf, vq, vi 3, vi 4, vq, vs 17 0 1 1, vs 18 0 1 1, vn, vi 2, vi 1048594, vi 2, vi 1, vi 5, vq, vq, vq, vq, vq, Value.func (.func 191) #[vp 15 0] #[], Value.func (.func 191) #[vp 15 0] #[], Value.func (.func 186) #[vp 15 0] #[], vq, vq, vq, vq, vf, vq, vq, vq, vn, vq, Value.nilFunc, vq, vq, vq, vn, vq, vq, vq, vp 2 0, vq, Value.nilFunc, vq, vT, vi 1, vp 19 0, vp 20 0, vp 21 0, vn, vi 2, vi 1048594, vq] 221), some (tch), some (Zcw), some (Za5), some (Zvz), some (.cells [vi 64, vs 24 0 1 1] 250), some (ZcX), some (Za6), some (.ro (Zaa ([(⟨(1 : Int), (0 : Int)⟩ : R_ii)] : List R_ii)) true), some (Zyw)]
 | .h1m12 => [some (.cells [vs 1 0 12 12, vn, vp 2 0, vs 3 0 1 1] 92), some (tcaz), some (tcb), some (Zcp), some (tcy), some (Zco), some (ZdC), some (tcd), some (tcl), some (tcm), some (tct), some (tci), some (tci), some (tca), some (tcg), some (.cells [vT, vf, vq, vi 3, vi 4, vq, vs 17 0 1 1, vs 18 0 1 1, vn, vi 2, vi 1048577, vq, vi 2, vi 1048594, vq, vq, vq, vq, vq, Value.func (.func 191) #[vp 15 0] #[], Value.func (.func 191) #[vp 15 0] #[], Value.func (.func 186) #[vp 15 0] #[], vi 1, vq, vq, vq, vf, vq, vq, vq, vs 19 0 1 1, vq, Value.nilFunc, vq, vq, vq, vn, vq, vq, vq, vp 2 0, vq, Value.func (.func 247) #[vp 15 0] #[], vq, vT, vi 1, vp 20 0, vp 21 0, vp 22 0, vn, vi 2, vi 1048594, vq] 221), some (tch), some (Zcw), some (Za5), some (Za5), some (ZoI), some (.cells [vi 64, vs 25 0 1 1] 250), some (ZcX), some (Za6), some (.ro (Zaa ([(⟨(1 : Int), (0 : Int)⟩ : R_ii)] : List R_ii)) true), some (Zyw)]
 | .h1m13 => [some (.cells [vs 1 0 13 13, vn, vp 2 0, vs 3 0 1 1] 92), some (tcaw), some (tcb), some (Zcp), some (tcy), some (Zco), some (ZdC), some (tcd), some (tcl), some (tcc), some (tct), some (tci), some (tci), some (tca), some (tcg), some (.cells [vT, vf, vq, vi 3, vi 4, vq, vs 17 0 1 1, vs 18 0 1 1, vn, vi 2, vi 1048577, vq, vi 2, vi 1048594, vq, vq, vq, vq, vq, Value.func (.func 191) #[vp 15 0] #[], Value.func (.func 191) #[vp 15 0] #[], Value.func (.func 186) #[vp 15 0] #[], vi 1, vq, vq, vq, vf, vq, vq, vq, vs 19 2 0 0, vq, Value.nilFunc, vq, vq, vq, vn, vq, vq, vq, vp 2 0, vq, Value.func (.func 236) #[vp 15 0] #[], vq, vT, vi 1, vp 20 0, vp 21 0, vp 22 0, vn, vi 2, vi 1048594, vq] 221), some (tch), some (Zcw), some (Za5), some (Za5), some (ZoI), some (ZwV), some (ZcX), some (Za6), some (.ro (Zaa ([(⟨(1 : Int), (0 : Int)⟩ : R_ii)] : List R_ii)) true), some (Zv0)]
 | .h1m14 => [some (.cells [vs 1 0 14 14, vn, vp 2 0, vs 3 0 1 1] 92), some (tcav), some (tcb), some (Zcp), some (tcy), some (Zco), some (ZdC), some (tcd), some (tcl), some (tcc), some (tct), some (tci), some (tci), some (tca), some (tcg), some (.cells [vT, vf, vq, vi 3, vi 4, vq, vs 17 0 1 1, vs 18 0 1 1, vn, vi 2, vi 1048577, vq, vi 2, vi 1048594, vq, vq, vq, vq, vq, Value.func (.func 191) #[vp 15 0] #[], Value.func (.func 191) #[vp 15 0] #[], Value.func (.func 186) #[vp 15 0] #[], vi 1, vq, vq, vq, vf, vq, vq, vq, vs 19 2 0 0, vq, Value.nilFunc, vq, vq, vq, vn, vq, vq, vq, vp 2 0, vq, Value.func (.func 186) #[vp 15 0] #[], vq, vT, vi 1, vp 20 0, vp 21 0, vp 22 0, vn, vi 2, vi 1048594, vq] 221), some (tch), some (Zcw), some (Za5), some (Za5), some (ZoI), some (ZwV), some (ZcX), some (Za6), some (.ro (Zaa ([(⟨(1 : Int), (0 : Int)⟩ : R_ii)] : List R_ii)) true), some (Zv0)]
 | .h1m15 => [some (.cells [vs 1 0 15 15, vn, vp 2 0, vs 3 0 1 1] 92), some (tcat), some (tcb), some (Zcp), some (tcy), some (Zco), some (ZdC), some (tcd), some (tcl), some (tcc), some (tct), some (tcu), some (tcu), some (tca), some (tcg), some (.cells [vT, vf, vq, vi 3, vi 4, vq, vs 17 0 1 1, vs 18 0 1 1, vn, vi 2, vi 1048577, vq, vi 2, vi 1048594, vq, vq, vq, vq, vq, Value.func (.func 191) #[vp 15 0] #[], Value.func (.func 191) #[vp 15 0] #[], Value.func (.func 186) #[vp 15 0] #[], vi 1, vq, vq, vq, vf, vq, vq, vq, vs 19 2 0 0, vq, Value.nilFunc, vq, vq, vq, vn, vq, vq, vq, vp 2 0, vq, Value.func (.func 191) #[vp 15 0] #[], vq, vT, vi 1, vp 20 0, vp 21 0, vp 22 0, vn, vi 2, vi 1048594, vq] 221), some (tch), some (Zcw), some (Za5), some (Za5), some (ZoI), some (ZwV), some (Zyx), some (Za6), some (.ro (Zaa ([(⟨(1 : Int), (0 : Int)⟩ : R_ii)] : List R_ii)) true), some (Zv0), some (Za6)]
 | .h1m16 => [some (.cells [vs 1 0 16 16, vn, vp 2 0, vs 3 0 1 1] 92), some (tcar), some (tcb), some (Zcp), some (tcy), some (Zco), some (ZdC), some (tcd), some (ZwU), some (tcc), some (tcj), some (tcu), some (tcu), some (tca), some (tcg), some (.cells [vT, vf, vq, vi 3, vi 4, vq, vs 17 0 1 1, vs 18 0 1 1, vn, vi 2, vi 1048577, vq, vi 2, vi 1048594, vq, vq, vq, vq, vq, Value.func (.func 191) #[vp 15 0] #[], Value.func (.func 191) #[vp 15 0] #[], Value.func (.func 186) #[vp 15 0] #[], vi 1, vq, vq, vq, vf, vq, vq, vq, vs 19 2 0 0, vq, Value.nilFunc, vq, vq, vq, vn, vq, vq, vq, vp 2 0, vq, Value.nilFunc, vq, vT, vi 1, vp 20 0, vp 21 0, vp 22 0, vn, vi 2, vi 1048594, vq] 221), some (tch), some (Zcw), some (Za5), some (Za5), some (ZoI), some (.cells [vi 64, vs 25 0 3 3] 250), some (Zyx), some (Za6), some (.ro (Zaa ([(⟨(1 : Int), (0 : Int)⟩ : R_ii)] : List R_ii)) true), some (tcq), some (Za6)]
 | .h1m17 => [some (.cells [vs 1 0 17 17, vn, vp 2 0, vs 3 0 1 1] 92), some (tcap), some (tcn), some (Zcp), some (tcy), some (Zco), some (ZiG), some (tcd), some (ZwU), some (tcc), some (tcj), some (tcu), some (tcu), some (tca), some (tcg), some (.cells [vT, vf, vq, vi 3, vi 4, vi 17, vs 17 0 1 1, vs 18 0 1 1, vn, vq, vq, vq, vq, vq, vq, vq, vq, vq, vq, Value.nilFunc, Value.nilFunc, Value.nilFunc, vq, vq, vq, vq, vf, vq, vq, vq, vn, vq, Value.func (.func 222) #[vp 15 0] #[], vq, vq, vi 1, vn, vq, vq, vq, vp 2 0, vq, Value.func (.func 223) #[vp 15 0] #[], vq, vT, vi 1, vp 19 0, vp 20 0, vp 21 0, vn, vi 2, vi 1048594, vq] 221), some (tch), some (Zcw), some (Za5), some (Zvz), some (.cells [vi 64, vs 24 0 3 3] 250), some (.cells [vT, vs 25 0 1 1] 254), some (Za6), some (.ro (Zaa ([(⟨(1 : Int), (0 : Int)⟩ : R_ii)] : List R_ii)) true), some (tcq), some (Za6)]
 | .h1m18 => [some (.cells [vs 1 0 18 18, vs 2 0 1 1, vp 3 0, vs 4 0 1 1] 92), some (tcao), some (Zma), some (tco), some (Zmc), some (Za5), some (ZlZ), some (Zmb), some (ZiG), some (tcd), some (tcv), some (tcc), some (tcj), some (tcu), some (tcu), some (tca), some (tcg), some (.cells [vT, vT, vq, vi 3, vi 4, vi 17, vs 19 0 1 1, vs 20 0 1 1, vn, vq, vq, vq, vq, vq, vq, vq, vq, vq, vq, Value.nilFunc, Value.nilFunc, Value.nilFunc, vq, vq, vq, vq, vf, vq, vq, vq, vn, vi 1, Value.func (.func 222) #[vp 17 0] #[], vq, vq, vi 1, vn, vq, vq, vq, vp 3 0, vq, Value.func (.func 274) #[vp 17 0] #[], vq, vT, vi 1, vp 21 0, vp 22 0, vp 23 0, vn, vi 2, vi 1048594, vq] 221), some (ZlY), some (Zcw), some (Za5), some (Zqs), some (Zqt), some (.cells [vT, vs 27 0 1 1] 254), some (Za6), some (.ro (Zaa ([(⟨(1 : Int), (0 : Int)⟩ : R_ii)] : List R_ii)) true), some (tcq), some (Za6)]
 | .h1m19 => [some (.cells [vs 1 0 19 19, vs 2 0 1 1, vp 3 0, vs 4 0 1 1] 92), some (tcam), some (Zma), some (tco), some (Zmc), some (Za5), some (ZlZ), some (Zmb), some (ZiG), some (tcd), some (tcv), some (tcc), some (tcj), some (ZoJ), some (tcu), some (tca), some (tcg), some (.cells [vT, vT, vq, vi 3, vi 4, vi 17, vs 19 0 1 1, vs 20 0 1 1, vn, vq, vq, vq, vq, vq, vq, vq, vq, vq, vq, Value.nilFunc, Value.nilFunc, Value.nilFunc, vq, vq, vq, vq, vf, vq, vq, vq, vn, vi 1, Value.func (.func 222) #[vp 17 0] #[], vq, vq, vi 1, vn, vq, vq, vq, vp 3 0, vq, Value.func (.func 319) #[vp 17 0] #[], vq, vT, vi 1, vp 21 0, vp 22 0, vp 23 0, vn, vi 2, vi 1048594, vq] 221), some (ZlY), some (Zcw), some (Za5), some (Zqs), some (Zqt), some (Zsi), some (Za6), some (.ro (Zaa ([(⟨(1 : Int), (0 : Int)⟩ : R_ii)] : List R_ii)) true), some (tcq), some (Za6)]
 | .h1m20 => [some (.cells [vs 1 0 20 20, vs 2 0 1 1, vp 3 0, vs 4 0 1 1] 92), some (tcal), some (Zma), some (tcf), some (Zmc), some (Za5), some (ZlZ), some (Zmb), some (ZiG), some (tcr), some (tcv), some (tcc), some (tcj), some (ZoJ), some (tcu), some (tca), some (tcg), some (.cells [vT, vT, vq, vi 3, vi 4, vi 17, vs 19 0 1 1, vs 20 0 1 1, vn, vq, vq, vq, vq, vq, vq, vq, vq, vq, vq, Value.nilFunc, Value.nilFunc, Value.nilFunc, vq, vq, vq, vq, vf, vq, vq, vq, vn, vi 1, Value.func (.func 222) #[vp 17 0] #[], vq, vq, vi 1, vn, vq, vq, vq, vp 3 0, vq, Value.func (.func 343) #[vp 17 0] #[], vq, vT, vi 1, vp 21 0, vp 22 0, vp 23 0, vn, vi 2, vi 1048594, vq] 221), some (ZlY), some (Zcw), some (Za5), some (Zqs), some (Zqt), some (Zsi), some (Za6), some (.ro (Zaa ([(⟨(1 : Int), (0 : Int)⟩ : R_ii)] : List R_ii)) true), some (tcq), some (Za6)]
 | .h1m21 => [some (.cells [vs 1 0 21 21, vs 2 0 1 1, vp 3 0, vs 4 0 1 1] 92), some (tcaj), some (Zma), some (tcf), some (Zmc), some (Za5), some (ZlZ), some (Zmb), some (ZiG), some (tcr), some (tcv), some (tcc), some (tcj), some (ZoJ), some (tcu), some (tca), some (tcg), some (.cells [vT, vT, vq, vi 3, vi 4, vi 17, vs 19 0 1 1, vs 20 0 1 1, vn, vq, vq, vq, vq, vq, vq, vq, vq, vq, vq, Value.nilFunc, Value.nilFunc, Value.nilFunc, vq, vq, vq, vq, vf, vq, vq, vq, vn, vi 1, Value.func (.func 222) #[vp 17 0] #[], vq, vq, vi 1, vs 21 0 1 1, vq, vq, vq, vp 3 0, vq, Value.func (.func 349) #[vp 17 0] #[], vq, vT, vi 1, vp 22 0, vp 23 0, vp 24 0, vn, vi 2, vi 1048594, vq] 221), some (ZlY), some (Zcw), some (Za5), some (.cells [vi 2] 3), some (tcbz), some (.cells [vi 64, vs 27 0 3 3] 250), some (.cells [vT, vs 28 0 0 1] 254), some (Za6), some (.ro (Zaa ([(⟨(1 : Int), (0 : Int)⟩ : R_ii)] : List R_ii)) true), some (tcq), some (Za6)]
 | .h1m22 => [some (.cells [vs 1 0 22 22, vs 2 0 1 1, vp 3 0, vs 4 0 1 1] 92), some (tcah), some (Zma), some (tcf), some (Zmc), some (Za5), some (ZlZ), some (Zmb), some (ZiG), some (tcr), some (.cells [vp 3 0, vq, vs 15 0 31 31, Value.int .u32 (0 : Int), Value.int .i32 (0 : Int), Value.int .u32 (0 : Int), vn, vi 2, vi 1048577, vi 1, vi 5, vi 2, vq, vi 1, vq, vi 1, vq, vi 1, vq, vi 2, vi 1048594, vi 1, vq, vi 31, vn, vq, vq, vn, vp 16 0, vp 17 0, vq, vf, vn] 170), some (tcc), some (tcj), some (ZoJ), some (tcu), some (tca), some (.cells [vf, vT, vq, vi 3, vi 4, vi 17, vs 18 0 1 1, vs 19 0 1 1, vn, vq, vq, vq, vq, vq, vq, vq, vq, vq, vq, Value.nilFunc, Value.nilFunc, Value.nilFunc, vq, vq, vq, vq, vf, vq, vq, vq, vn, vi 1, Value.func (.func 222) #[vp 16 0] #[], vq, vq, vi 1, vs 20 0 1 1, vq, vq, vq, vp 3 0, vq, Value.nilFunc, vq, vT, vq, vp 21 0, vp 22 0, vp 23 0, vn, vi 2, vi 1048594, vq] 221), some (ZlY), some (Zcw), some (Za5), some (.cells [vi 2] 3), some (Zqs), some (Zqt), some (Zsi), some (Za6), some (.ro (Zaa ([(⟨(1 : Int), (0 : Int)⟩ : R_ii)] : List R_ii)) true), some (tcq), some (Za6)]
 | .h1m23 => [some (.cells [vs 1 0 23 23, vs 2 0 1 1, vp 3 0, vs 4 0 1 1] 92), some (tcad), some (Zma), some (tcf), some (Zmc), some (Za5), some (ZlZ), some (Zmb), some (ZiG), some (tcr), some (tcbl), some (tcc), some (tcj), some (ZoJ), some (tcu), some (tca), some (.cells [vf, vT, vq, vi 3, vi 4, vi 17, vs 18 0 1 1, vs 19 0 1 1, vn, vq, vq, vq, vq, vq, vq, vq, vq, vq, vq, Value.nilFunc, Value.nilFunc, Value.nilFunc, vq, vq, vq, vq, vf, vq, vq, vq, vn, vi 1, Value.func (.func 222) #[vp 16 0] #[], vq, vq, vi 1, vs 20 0 1 1, vq, vq, vq, vp 3 0, vq, Value.nilFunc, vq, vT, vq, vp 21 0, vp 22 0, vp 23 0, vn, vi 2, vi 1048594, vq] 221), some (ZlY), some (Zcw), some (Za5), some (.cells [vi 2] 3), some (Zqs), some (Zqt), some (Zsi), some (Za6), some (.ro (Zaa ([(⟨(1 : Int), (0 : Int)⟩ : R_ii)] : List R_ii)) true), some (tcq), some (Za6)]

noncomputable def ZL : Nat → Code × List Zff
 | 1 => Zke [1, 1, 1, 1, 1, 0, 1, 3] (Zwg Tryz.f14) []
 | _ => (.skip, [])
def ZqY : Nat → Bool
 | 1 => true
 | _ => true
noncomputable def ZW (i : Nat) : List Zff := match ZqY i with | true => .rnd i :: (ZL i).2 | false => (ZL i).2

noncomputable def Zk  (N : Nat) : Mach := ⟨Tryz.f14, [], Ze, ZA, Z4  N, ZvY, ZL, ZqY, ZwW , ZwX , Zsj , ZqX ⟩

theorem ZsO  (N : Nat) : (Zk  N).Ok Tryz.prog ZT (.h1m0 : Ze) (Z4  N (.h1m0 : Ze)) := by
 show (Zk  N).Ok Tryz.prog ZT (.h1m0 : Ze) (ZhU  N)
 unfold ZhU
 exact Mach.ok_next (M := Zk  N) (cd := 1000000) (cm := 0) (y := (.h1m1 : Ze)) (fu := 4000) (orc := (Zl [] [] [] [] [])) (live := [0, 56, 1, 2, 3, 4, 5, 6, 7, 8, 9, 10, 11, 12, 13, 14, 15, 16, 17]) (tv := fun _ => [some (vp 0 0), some (vi 1)]) (bl := [some (.cells [vs 56 0 1 1, vn, vp 1 0, vs 2 0 1 1] 92), some (.cells [vi 1, vq, vq, vq, vq, vq] 61), some (tcz), some (.cells [vp 7 0] 93), some (tccb), some (.cells [vs 10 0 16 16, vs 11 0 16 16] 190), some (Zv1), some (Zvy), some (.cells [vp 1 0, vq, vs 12 0 31 31, Value.int .u32 (0 : Int), Value.int .i32 (0 : Int), Value.int .u32 (0 : Int), vn, vi 2, vi 1048577, vi 1, vq, vi 1, vq, vi 1, vq, vi 1, vq, vi 1, vq, vi 1, vq, vi 1, vq, vi 1, vn, vq, vq, vn, vp 13 0, vp 14 0, vq, vf, vn] 170), some (tce), some (tck), some (tci), some (tci), some (tca), some (tcbg), some (tcby), some (tcx), some (Zf6), some (ZcX)]) (ob := []) rfl (show 1 ∈ ZZ (ZW 1) from by decide +kernel) (fun gv => by kernel_rfl) Zf rfl (by decide) (by rfl) (fun _ => ⟨rr, ⟨rr, trivial⟩⟩) ⟨⟨rfl, ⟨[], by rfl⟩, by rfl⟩, ⟨⟨rfl, ⟨[], by rfl⟩, by rfl⟩, ⟨⟨rfl, ⟨[], by rfl⟩, by rfl⟩, ⟨⟨rfl, ⟨[], by rfl⟩, by rfl⟩, ⟨⟨rfl, ⟨[], by rfl⟩, by rfl⟩, ⟨⟨rfl, ⟨[], by rfl⟩, by rfl⟩, ⟨⟨rfl, ⟨[], by rfl⟩, by rfl⟩, ⟨⟨rfl, ⟨[], by rfl⟩, by rfl⟩, ⟨⟨rfl, ⟨[], by rfl⟩, by rfl⟩, ⟨⟨rfl, ⟨[], by rfl⟩, by rfl⟩, ⟨⟨rfl, ⟨[], by rfl⟩, by rfl⟩, ⟨⟨rfl, ⟨[], by rfl⟩, by rfl⟩, ⟨⟨rfl, ⟨[], by rfl⟩, by rfl⟩, ⟨⟨rfl, ⟨[], by rfl⟩, by rfl⟩, ⟨⟨rfl, ⟨[], by rfl⟩, by rfl⟩, ⟨⟨rfl, ⟨[], by rfl⟩, by rfl⟩, ⟨⟨rfl, ⟨[], by rfl⟩, by rfl⟩, ⟨⟨rfl, ⟨[], by rfl⟩, by rfl⟩, ⟨⟨rfl, ⟨[], by rfl⟩, by rfl⟩, trivial⟩⟩⟩⟩⟩⟩⟩⟩⟩⟩⟩⟩⟩⟩⟩⟩⟩⟩⟩

theorem ZsP  (N : Nat) : (Zk  N).Ok Tryz.prog ZT (.h1m1 : Ze) (Z4  N (.h1m1 : Ze)) := by
 show (Zk  N).Ok Tryz.prog ZT (.h1m1 : Ze) (ZhV  N)
 unfold ZhV
 exact Mach.ok_next (M := Zk  N) (cd := 1000000) (cm := 0) (y := (.h1m2 : Ze)) (fu := 4000) (orc := (Zl [] [] [] [] [])) (live := [0, 58, 2, 3, 4, 5, 6, 7, 8, 9, 10, 11, 12, 13, 14, 15, 16, 17, 18]) (tv := fun _ => [some (vp 0 0), some (vi 2)]) (bl := [some (.cells [vs 58 0 2 2, vn, vp 2 0, vs 3 0 1 1] 92), some (.cells [vi 1, vq, vq, vq, vq, vq, vi 1, vq, vq, vq, vq, vq] 61), some (tcp), some (Zcp), some (tcw), some (Zco), some (Zv1), some (Zvy), some (tcbo), some (tce), some (tck), some (tci), some (tci), some (tca), some (ZzH), some (tch), some (tcx), some (Zf6), some (ZcX)]) (ob := []) rfl (show 1 ∈ ZZ (ZW 1) from by decide +kernel) (fun gv => by kernel_rfl) Zf rfl (by decide) (by rfl) (fun _ => ⟨rr, ⟨rr, trivial⟩⟩) ⟨⟨rfl, ⟨[], by rfl⟩, by rfl⟩, ⟨⟨rfl, ⟨[], by rfl⟩, by rfl⟩, ⟨⟨rfl, ⟨[], by rfl⟩, by rfl⟩, ⟨⟨rfl, ⟨[], by rfl⟩, by rfl⟩, ⟨⟨rfl, ⟨[], by rfl⟩, by rfl⟩, ⟨⟨rfl, ⟨[], by rfl⟩, by rfl⟩, ⟨⟨rfl, ⟨[], by rfl⟩, by rfl⟩, ⟨⟨rfl, ⟨[], by rfl⟩, by rfl⟩, ⟨⟨rfl, ⟨[], by rfl⟩, by rfl⟩, ⟨⟨rfl, ⟨[], by rfl⟩, by rfl⟩, ⟨⟨rfl, ⟨[], by rfl⟩, by rfl⟩, ⟨⟨rfl, ⟨[], by rfl⟩, by rfl⟩, ⟨⟨rfl, ⟨[], by rfl⟩, by rfl⟩, ⟨⟨rfl, ⟨[], by rfl⟩, by rfl⟩, ⟨⟨rfl, ⟨[], by rfl⟩, by rfl⟩, ⟨⟨rfl, ⟨[], by rfl⟩, by rfl⟩, ⟨⟨rfl, ⟨[], by rfl⟩, by rfl⟩, ⟨⟨rfl, ⟨[], by rfl⟩, by rfl⟩, ⟨⟨rfl, ⟨[], by rfl⟩, by rfl⟩, trivial⟩⟩⟩⟩⟩⟩⟩⟩⟩⟩⟩⟩⟩⟩⟩⟩⟩⟩⟩

theorem ZsQ  (N : Nat) : (Zk  N).Ok Tryz.prog ZT (.h1m2 : Ze) (Z4  N (.h1m2 : Ze)) := by
 show (Zk  N).Ok Tryz.prog ZT (.h1m2 : Ze) (ZhW  N)
 unfold ZhW
 exact Mach.ok_next (M := Zk  N) (cd := 1000000) (cm := 0) (y := (.h1m3 : Ze)) (fu := 4000) (orc := (Zl [] [] [] [] [])) (live := [0, 44, 2, 3, 4, 5, 6, 7, 8, 9, 10, 11, 12, 13, 28, 14, 15, 16, 17, 18]) (tv := fun _ => [some (vp 0 0), some (vi 3)]) (bl := [some (.cells [vs 44 0 3 3, vn, vp 2 0, vs 3 0 1 1] 92), some (tccg), some (tcb), some (Zcp), some (tcw), some (Zco), some (ZdC), some (tcd), some (.cells [vp 2 0, vq, vs 13 0 31 31, Value.int .u32 (0 : Int), Value.int .i32 (0 : Int), Value.int .u32 (0 : Int), vn, vi 2, vi 1048577, vi 1, vi 5, vi 1, vq, vi 1, vq, vi 1, vq, vi 1, vq, vi 1, vq, vi 1, vq, vi 2, vn, vq, vq, vs 28 0 1 1, vp 14 0, vp 15 0, vi 3, vf, vn] 170), some (tce), some (tck), some (tci), some (tci), some (tca), some (tcg), some (.cells [vT, vf, vq, vi 3, vq, vq, vn, vn, vn, vq, vq, vq, vq, vq, vq, vq, vq, vq, vq, Value.nilFunc, Value.nilFunc, Value.nilFunc, vq, vq, vq, vq, vf, vq, vq, vq, vn, vq, Value.nilFunc, vq, vq, vq, vn, vq, vq, vq, vp 2 0, vq, Value.func (.func 216) #[vp 14 0] #[], vq, vf, vi 1, vp 16 0, vp 17 0, vp 18 0, vn, vq, vq, vq] 221), some (tch), some (tcx), some (Zf6), some (ZcX)]) (ob := []) rfl (show 1 ∈ ZZ (ZW 1) from by decide +kernel) (fun gv => by kernel_rfl) Zf rfl (by decide) (by rfl) (fun _ => ⟨rr, ⟨rr, trivial⟩⟩) ⟨⟨rfl, ⟨[], by rfl⟩, by rfl⟩, ⟨⟨rfl, ⟨[], by rfl⟩, by rfl⟩, ⟨⟨rfl, ⟨[], by rfl⟩, by rfl⟩, ⟨⟨rfl, ⟨[], by rfl⟩, by rfl⟩, ⟨⟨rfl, ⟨[], by rfl⟩, by rfl⟩, ⟨⟨rfl, ⟨[], by rfl⟩, by rfl⟩, ⟨⟨rfl, ⟨[], by rfl⟩, by rfl⟩, ⟨⟨rfl, ⟨[], by rfl⟩, by rfl⟩, ⟨⟨rfl, ⟨[], by rfl⟩, by rfl⟩, ⟨⟨rfl, ⟨[], by rfl⟩, by rfl⟩, ⟨⟨rfl, ⟨[], by rfl⟩, by rfl⟩, ⟨⟨rfl, ⟨[], by rfl⟩, by rfl⟩, ⟨⟨rfl, ⟨[], by rfl⟩, by rfl⟩, ⟨⟨rfl, ⟨[], by rfl⟩, by rfl⟩, ⟨⟨rfl, ⟨[], by rfl⟩, by rfl⟩, ⟨⟨rfl, ⟨[], by rfl⟩, by rfl⟩, ⟨⟨rfl, ⟨[], by rfl⟩, by rfl⟩, ⟨⟨rfl, ⟨[], by rfl⟩, by rfl⟩, ⟨⟨rfl, ⟨[], by rfl⟩, by rfl⟩, ⟨⟨rfl, ⟨[], by rfl⟩, by rfl⟩, trivial⟩⟩⟩⟩⟩⟩⟩⟩⟩⟩⟩⟩⟩⟩⟩⟩⟩⟩⟩⟩

theorem ZsR  (N : Nat) : (Zk  N).Ok Tryz.prog ZT (.h1m3 : Ze) (Z4  N (.h1m3 : Ze)) := by
 show (Zk  N).Ok Tryz.prog ZT (.h1m3 : Ze) (ZhX  N)
 unfold ZhX
 exact Mach.ok_next (M := Zk  N) (cd := 1000000) (cm := 0) (y := (.h1m4 : Ze)) (fu := 4000) (orc := (Zl [] [] [] [] [])) (live := [0, 38, 2, 3, 4, 5, 6, 7, 8, 9, 10, 11, 12, 13, 14, 15, 16, 17, 18, 19]) (tv := fun _ => [some (vp 0 0), some (vi 4)]) (bl := [some (.cells [vs 38 0 4 4, vn, vp 2 0, vs 3 0 1 1] 92), some (tcca), some (tcb), some (Zcp), some (tcw), some (Zco), some (ZdC), some (tcd), some (tcs), some (tce), some (tck), some (tci), some (tci), some (tca), some (tcg), some (tcbf), some (tch), some (tcx), some (Zf6), some (ZcX)]) (ob := []) rfl (show 1 ∈ ZZ (ZW 1) from by decide +kernel) (fun gv => by kernel_rfl) Zf rfl (by decide) (by rfl) (fun _ => ⟨rr, ⟨rr, trivial⟩⟩) ⟨⟨rfl, ⟨[], by rfl⟩, by rfl⟩, ⟨⟨rfl, ⟨[], by rfl⟩, by rfl⟩, ⟨⟨rfl, ⟨[], by rfl⟩, by rfl⟩, ⟨⟨rfl, ⟨[], by rfl⟩, by rfl⟩, ⟨⟨rfl, ⟨[], by rfl⟩, by rfl⟩, ⟨⟨rfl, ⟨[], by rfl⟩, by rfl⟩, ⟨⟨rfl, ⟨[], by rfl⟩, by rfl⟩, ⟨⟨rfl, ⟨[], by rfl⟩, by rfl⟩, ⟨⟨rfl, ⟨[], by rfl⟩, by rfl⟩, ⟨⟨rfl, ⟨[], by rfl⟩, by rfl⟩, ⟨⟨rfl, ⟨[], by rfl⟩, by rfl⟩, ⟨⟨rfl, ⟨[], by rfl⟩, by rfl⟩, ⟨⟨rfl, ⟨[], by rfl⟩, by rfl⟩, ⟨⟨rfl, ⟨[], by rfl⟩, by rfl⟩, ⟨⟨rfl, ⟨[], by rfl⟩, by rfl⟩, ⟨⟨rfl, ⟨[], by rfl⟩, by rfl⟩, ⟨⟨rfl, ⟨[], by rfl⟩, by rfl⟩, ⟨⟨rfl, ⟨[], by rfl⟩, by rfl⟩, ⟨⟨rfl, ⟨[], by rfl⟩, by rfl⟩, ⟨⟨rfl, ⟨[], by rfl⟩, by rfl⟩, trivial⟩⟩⟩⟩⟩⟩⟩⟩⟩⟩⟩⟩⟩⟩⟩⟩⟩⟩⟩⟩

theorem ZsS  (N : Nat) : (Zk  N).Ok Tryz.prog ZT (.h1m4 : Ze) (Z4  N (.h1m4 : Ze)) := by
 show (Zk  N).Ok Tryz.prog ZT (.h1m4 : Ze) (ZhY  N)
 unfold ZhY
 exact Mach.ok_next (M := Zk  N) (cd := 1000000) (cm := 0) (y := (.h1m5 : Ze)) (fu := 4000) (orc := (Zl [] [] [] [] [])) (live := [0, 64, 2, 3, 4, 5, 6, 7, 8, 9, 10, 11, 12, 13, 14, 15, 16, 17, 18, 19]) (tv := fun _ => [some (vp 0 0), some (vi 5)]) (bl := [some (.cells [vs 64 0 5 5, vn, vp 2 0, vs 3 0 1 1] 92), some (tcbw), some (tcb), some (Zcp), some (tcw), some (Zco), some (ZdC), some (tcd), some (tcs), some (tce), some (tck), some (tci), some (tci), some (tca), some (tcg), some (.cells [vT, vf, vq, vi 3, vi 4, vq, vn, vn, vn, vi 2, vi 1048577, vq, vq, vq, vq, vq, vq, vq, vq, Value.func (.func 188) #[vp 15 0] #[], Value.func (.func 189) #[vp 15 0] #[], Value.func (.func 189) #[vp 15 0] #[], vi 1, vq, vq, vq, vf, vq, vq, vq, vn, vq, Value.nilFunc, vq, vq, vq, vn, vq, vq, vq, vp 2 0, vq, Value.func (.func 236) #[vp 15 0] #[], vq, vT, vi 1, vp 17 0, vp 18 0, vp 19 0, vn, vq, vq, vq] 221), some (tch), some (tcx), some (Zf6), some (ZcX)]) (ob := []) rfl (show 1 ∈ ZZ (ZW 1) from by decide +kernel) (fun gv => by kernel_rfl) Zf rfl (by decide) (by rfl) (fun _ => ⟨rr, ⟨rr, trivial⟩⟩) ⟨⟨rfl, ⟨[], by rfl⟩, by rfl⟩, ⟨⟨rfl, ⟨[], by rfl⟩, by rfl⟩, ⟨⟨rfl, ⟨[], by rfl⟩, by rfl⟩, ⟨⟨rfl, ⟨[], by rfl⟩, by rfl⟩, ⟨⟨rfl, ⟨[], by rfl⟩, by rfl⟩, ⟨⟨rfl, ⟨[], by rfl⟩, by rfl⟩, ⟨⟨rfl, ⟨[], by rfl⟩, by rfl⟩, ⟨⟨rfl, ⟨[], by rfl⟩, by rfl⟩, ⟨⟨rfl, ⟨[], by rfl⟩, by rfl⟩, ⟨⟨rfl, ⟨[], by rfl⟩, by rfl⟩, ⟨⟨rfl, ⟨[], by rfl⟩, by rfl⟩, ⟨⟨rfl, ⟨[], by rfl⟩, by rfl⟩, ⟨⟨rfl, ⟨[], by rfl⟩, by rfl⟩, ⟨⟨rfl, ⟨[], by rfl⟩, by rfl⟩, ⟨⟨rfl, ⟨[], by rfl⟩, by rfl⟩, ⟨⟨rfl, ⟨[], by rfl⟩, by rfl⟩, ⟨⟨rfl, ⟨[], by rfl⟩, by rfl⟩, ⟨⟨rfl, ⟨[], by rfl⟩, by rfl⟩, ⟨⟨rfl, ⟨[], by rfl⟩, by rfl⟩, ⟨⟨rfl, ⟨[], by rfl⟩, by rfl⟩, trivial⟩⟩⟩⟩⟩⟩⟩⟩⟩⟩⟩⟩⟩⟩⟩⟩⟩⟩⟩⟩

theorem ZsT  (N : Nat) : (Zk  N).Ok Tryz.prog ZT (.h1m5 : Ze) (Z4  N (.h1m5 : Ze)) := by
 show (Zk  N).Ok Tryz.prog ZT (.h1m5 : Ze) (ZhZ  N)
 unfold ZhZ
 exact Mach.ok_next (M := Zk  N) (cd := 1000000) (cm := 0) (y := (.h1m6 : Ze)) (fu := 4000) (orc := (Zl [] [] [] [] [])) (live := [0, 44, 2, 3, 4, 5, 6, 7, 8, 9, 10, 11, 12, 13, 14, 15, 16, 17, 18, 19]) (tv := fun _ => [some (vp 0 0), some (vi 6)]) (bl := [some (.cells [vs 44 0 6 6, vn, vp 2 0, vs 3 0 1 1] 92), some (tcbv), some (tcb), some (Zcp), some (tcw), some (Zco), some (ZdC), some (tcd), some (tcs), some (tce), some (tck), some (tci), some (tci), some (tca), some (tcg), some (.cells [vT, vf, vq, vi 3, vi 4, vq, vn, vn, vn, vi 2, vi 1048577, vq, vq, vq, vq, vq, vq, vq, vq, Value.func (.func 188) #[vp 15 0] #[], Value.func (.func 189) #[vp 15 0] #[], Value.func (.func 189) #[vp 15 0] #[], vi 1, vq, vq, vq, vf, vq, vq, vq, vn, vq, Value.nilFunc, vq, vq, vq, vn, vq, vq, vq, vp 2 0, vq, Value.func (.func 189) #[vp 15 0] #[], vq, vT, vi 1, vp 17 0, vp 18 0, vp 19 0, vn, vq, vq, vq] 221), some (tch), some (tcx), some (Zf6), some (ZcX)]) (ob := []) rfl (show 1 ∈ ZZ (ZW 1) from by decide +kernel) (fun gv => by kernel_rfl) Zf rfl (by decide) (by rfl) (fun _ => ⟨rr, ⟨rr, trivial⟩⟩) ⟨⟨rfl, ⟨[], by rfl⟩, by rfl⟩, ⟨⟨rfl, ⟨[], by rfl⟩, by rfl⟩, ⟨⟨rfl, ⟨[], by rfl⟩, by rfl⟩, ⟨⟨rfl, ⟨[], by rfl⟩, by rfl⟩, ⟨⟨rfl, ⟨[], by rfl⟩, by rfl⟩, ⟨⟨rfl, ⟨[], by rfl⟩, by rfl⟩, ⟨⟨rfl, ⟨[], by rfl⟩, by rfl⟩, ⟨⟨rfl, ⟨[], by rfl⟩, by rfl⟩, ⟨⟨rfl, ⟨[], by rfl⟩, by rfl⟩, ⟨⟨rfl, ⟨[], by rfl⟩, by rfl⟩, ⟨⟨rfl, ⟨[], by rfl⟩, by rfl⟩, ⟨⟨rfl, ⟨[], by rfl⟩, by rfl⟩, ⟨⟨rfl, ⟨[], by rfl⟩, by rfl⟩, ⟨⟨rfl, ⟨[], by rfl⟩, by rfl⟩, ⟨⟨rfl, ⟨[], by rfl⟩, by rfl⟩, ⟨⟨rfl, ⟨[], by rfl⟩, by rfl⟩, ⟨⟨rfl, ⟨[], by rfl⟩, by rfl⟩, ⟨⟨rfl, ⟨[], by rfl⟩, by rfl⟩, ⟨⟨rfl, ⟨[], by rfl⟩, by rfl⟩, ⟨⟨rfl, ⟨[], by rfl⟩, by rfl⟩, trivial⟩⟩⟩⟩⟩⟩⟩⟩⟩⟩⟩⟩⟩⟩⟩⟩⟩⟩⟩⟩

theorem ZsU  (N : Nat) : (Zk  N).Ok Tryz.prog ZT (.h1m6 : Ze) (Z4  N (.h1m6 : Ze)) := by
 show (Zk  N).Ok Tryz.prog ZT (.h1m6 : Ze) (Zia  N)
 unfold Zia
 exact Mach.ok_next (M := Zk  N) (cd := 1000000) (cm := 0) (y := (.h1m7 : Ze)) (fu := 4000) (orc := (Zl [] [] [] [] [])) (live := [0, 62, 2, 3, 4, 5, 6, 7, 8, 9, 10, 11, 12, 13, 14, 15, 16, 17, 18, 19]) (tv := fun _ => [some (vp 0 0), some (vi 7)]) (bl := [some (.cells [vs 62 0 7 7, vn, vp 2 0, vs 3 0 1 1] 92), some (tcbu), some (tcb), some (Zcp), some (tcw), some (Zco), some (ZdC), some (tcd), some (tcs), some (tce), some (tck), some (tci), some (tci), some (tca), some (tcg), some (.cells [vT, vf, vq, vi 3, vi 4, vq, vn, vn, vn, vi 2, vi 1048577, vq, vq, vq, vq, vq, vq, vq, vq, Value.func (.func 188) #[vp 15 0] #[], Value.func (.func 189) #[vp 15 0] #[], Value.func (.func 189) #[vp 15 0] #[], vi 1, vq, vq, vq, vf, vi 2, vq, vq, vn, vq, Value.nilFunc, vq, vq, vq, vn, vq, vq, vq, vp 2 0, vq, Value.func (.func 239) #[vp 15 0] #[], vq, vT, vi 1, vp 17 0, vp 18 0, vp 19 0, vn, vq, vq, vq] 221), some (tch), some (tcx), some (Zf6), some (ZcX)]) (ob := []) rfl (show 1 ∈ ZZ (ZW 1) from by decide +kernel) (fun gv => by kernel_rfl) Zf rfl (by decide) (by rfl) (fun _ => ⟨rr, ⟨rr, trivial⟩⟩) ⟨⟨rfl, ⟨[], by rfl⟩, by rfl⟩, ⟨⟨rfl, ⟨[], by rfl⟩, by rfl⟩, ⟨⟨rfl, ⟨[], by rfl⟩, by rfl⟩, ⟨⟨rfl, ⟨[], by rfl⟩, by rfl⟩, ⟨⟨rfl, ⟨[], by rfl⟩, by rfl⟩, ⟨⟨rfl, ⟨[], by rfl⟩, by rfl⟩, ⟨⟨rfl, ⟨[], by rfl⟩, by rfl⟩, ⟨⟨rfl, ⟨[], by rfl⟩, by rfl⟩, ⟨⟨rfl, ⟨[], by rfl⟩, by rfl⟩, ⟨⟨rfl, ⟨[], by rfl⟩, by rfl⟩, ⟨⟨rfl, ⟨[], by rfl⟩, by rfl⟩, ⟨⟨rfl, ⟨[], by rfl⟩, by rfl⟩, ⟨⟨rfl, ⟨[], by rfl⟩, by rfl⟩, ⟨⟨rfl, ⟨[], by rfl⟩, by rfl⟩, ⟨⟨rfl, ⟨[], by rfl⟩, by rfl⟩, ⟨⟨rfl, ⟨[], by rfl⟩, by rfl⟩, ⟨⟨rfl, ⟨[], by rfl⟩, by rfl⟩, ⟨⟨rfl, ⟨[], by rfl⟩, by rfl⟩, ⟨⟨rfl, ⟨[], by rfl⟩, by rfl⟩, ⟨⟨rfl, ⟨[], by rfl⟩, by rfl⟩, trivial⟩⟩⟩⟩⟩⟩⟩⟩⟩⟩⟩⟩⟩⟩⟩⟩⟩⟩⟩⟩

theorem ZsV  (N : Nat) : (Zk  N).Ok Tryz.prog ZT (.h1m7 : Ze) (Z4  N (.h1m7 : Ze)) := by
 show (Zk  N).Ok Tryz.prog ZT (.h1m7 : Ze) (Zib  N)
 unfold Zib
 exact Mach.ok_next (M := Zk  N) (cd := 1000000) (cm := 0) (y := (.h1m8 : Ze)) (fu := 4000) (orc := (Zl [(68, true)] [] [] [] [])) (live := [0, 63, 2, 3, 4, 5, 6, 7, 8, 9, 10, 11, 12, 13, 14, 15, 16, 48, 17, 18, 19, 38, 36]) (tv := fun _ => [some (vp 0 0), some (vi 8)]) (bl := [some (.cells [vs 63 0 8 8, vn, vp 2 0, vs 3 0 1 1] 92), some (tcbr), some (tcb), some (Zcp), some (tcw), some (Zco), some (ZdC), some (tcd), some (tcbk), some (tce), some (tck), some (tci), some (tci), some (tca), some (tcg), some (.cells [vT, vf, vq, vi 3, vi 4, vq, vs 48 0 1 1, vn, vn, vi 2, vi 1048577, vq, vq, vq, vq, vq, vq, vq, vq, Value.func (.func 188) #[vp 15 0] #[], Value.func (.func 189) #[vp 15 0] #[], Value.func (.func 189) #[vp 15 0] #[], vi 1, vq, vq, vq, vf, vi 2, vq, vq, vn, vq, Value.nilFunc, vq, vq, vq, vn, vq, vq, vq, vp 2 0, vq, Value.nilFunc, vq, vT, vi 1, vp 17 0, vp 18 0, vp 19 0, vn, vi 2, vq, vq] 221), some (tch), some (Zcw), some (.cells [vi 64, vs 38 0 1 1, Value.int .u32 (1 : Int), Value.int .i32 (0 : Int), Value.int .u32 (0 : Int), Value.map (some 36)] 247), some (Zf6), some (ZcX), some (Za6), some (.ro (Zaa ([(⟨(1 : Int), (0 : Int)⟩ : R_ii)] : List R_ii)) true)]) (ob := [(((0 : Int) == (0 : Int)), true)]) rfl (show 1 ∈ ZZ (ZW 1) from by decide +kernel) (fun gv => by kernel_rfl) (oT Zf) rfl (by decide) (by rfl) (fun _ => ⟨rr, ⟨rr, trivial⟩⟩) ⟨⟨rfl, ⟨[], by rfl⟩, by rfl⟩, ⟨⟨rfl, ⟨[], by rfl⟩, by rfl⟩, ⟨⟨rfl, ⟨[], by rfl⟩, by rfl⟩, ⟨⟨rfl, ⟨[], by rfl⟩, by rfl⟩, ⟨⟨rfl, ⟨[], by rfl⟩, by rfl⟩, ⟨⟨rfl, ⟨[], by rfl⟩, by rfl⟩, ⟨⟨rfl, ⟨[], by rfl⟩, by rfl⟩, ⟨⟨rfl, ⟨[], by rfl⟩, by rfl⟩, ⟨⟨rfl, ⟨[], by rfl⟩, by rfl⟩, ⟨⟨rfl, ⟨[], by rfl⟩, by rfl⟩, ⟨⟨rfl, ⟨[], by rfl⟩, by rfl⟩, ⟨⟨rfl, ⟨[], by rfl⟩, by rfl⟩, ⟨⟨rfl, ⟨[], by rfl⟩, by rfl⟩, ⟨⟨rfl, ⟨[], by rfl⟩, by rfl⟩, ⟨⟨rfl, ⟨[], by rfl⟩, by rfl⟩, ⟨⟨rfl, ⟨[], by rfl⟩, by rfl⟩, ⟨⟨rfl, ⟨[], by rfl⟩, by rfl⟩, ⟨⟨rfl, ⟨[], by rfl⟩, by rfl⟩, ⟨⟨rfl, ⟨[], by rfl⟩, by rfl⟩, ⟨⟨rfl, ⟨[], by rfl⟩, by rfl⟩, ⟨⟨rfl, ⟨[], by rfl⟩, by rfl⟩, ⟨⟨rfl, ⟨[], by rfl⟩, by rfl⟩, ⟨(show Zaa ([(⟨(1 : Int), (0 : Int)⟩ : R_ii)] : List R_ii) = Zaa ([(⟨(1 : Int), (0 : Int)⟩ : R_ii)] : List R_ii) from rfl), trivial⟩⟩⟩⟩⟩⟩⟩⟩⟩⟩⟩⟩⟩⟩⟩⟩⟩⟩⟩⟩⟩⟩⟩

theorem ZsW  (N : Nat) : (Zk  N).Ok Tryz.prog ZT (.h1m8 : Ze) (Z4  N (.h1m8 : Ze)) := by
 show (Zk  N).Ok Tryz.prog ZT (.h1m8 : Ze) (Zic  N)
 unfold Zic
 exact Mach.ok_next (M := Zk  N) (cd := 1000000) (cm := 0) (y := (.h1m9 : Ze)) (fu := 4000) (orc := (Zl [] [] [] [] [])) (live := [0, 62, 2, 3, 4, 5, 6, 7, 8, 9, 10, 11, 12, 13, 14, 15, 16, 17, 18, 19, 20, 21, 22]) (tv := fun _ => [some (vp 0 0), some (vi 9)]) (bl := [some (.cells [vs 62 0 9 9, vn, vp 2 0, vs 3 0 1 1] 92), some (tcbm), some (tcb), some (Zcp), some (tcw), some (Zco), some (ZdC), some (tcd), some (tcbj), some (tce), some (tck), some (tci), some (tci), some (tca), some (tcg), some (.cells [vT, vf, vq, vi 3, vi 4, vq, vs 17 0 1 1, vn, vn, vi 2, vi 1048577, vq, vq, vq, vq, vq, vq, vq, vq, Value.func (.func 188) #[vp 15 0] #[], Value.func (.func 189) #[vp 15 0] #[], Value.func (.func 189) #[vp 15 0] #[], vi 1, vq, vq, vq, vf, vi 2, vq, vq, vn, vq, Value.nilFunc, vq, vq, vq, vn, vq, vq, vq, vp 2 0, vq, Value.nilFunc, vq, vT, vi 1, vp 18 0, vp 19 0, vp 20 0, vn, vi 2, vq, vq] 221), some (tch), some (Zcw), some (Zyv), some (Zf6), some (ZcX), some (Za6), some (.ro (Zaa ([(⟨(1 : Int), (0 : Int)⟩ : R_ii)] : List R_ii)) true)]) (ob := []) rfl (show 1 ∈ ZZ (ZW 1) from by decide +kernel) (fun gv => by kernel_rfl) Zf rfl (by decide) (by rfl) (fun _ => ⟨rr, ⟨rr, trivial⟩⟩) ⟨⟨rfl, ⟨[], by rfl⟩, by rfl⟩, ⟨⟨rfl, ⟨[], by rfl⟩, by rfl⟩, ⟨⟨rfl, ⟨[], by rfl⟩, by rfl⟩, ⟨⟨rfl, ⟨[], by rfl⟩, by rfl⟩, ⟨⟨rfl, ⟨[], by rfl⟩, by rfl⟩, ⟨⟨rfl, ⟨[], by rfl⟩, by rfl⟩, ⟨⟨rfl, ⟨[], by rfl⟩, by rfl⟩, ⟨⟨rfl, ⟨[], by rfl⟩, by rfl⟩, ⟨⟨rfl, ⟨[], by rfl⟩, by rfl⟩, ⟨⟨rfl, ⟨[], by rfl⟩, by rfl⟩, ⟨⟨rfl, ⟨[], by rfl⟩, by rfl⟩, ⟨⟨rfl, ⟨[], by rfl⟩, by rfl⟩, ⟨⟨rfl, ⟨[], by rfl⟩, by rfl⟩, ⟨⟨rfl, ⟨[], by rfl⟩, by rfl⟩, ⟨⟨rfl, ⟨[], by rfl⟩, by rfl⟩, ⟨⟨rfl, ⟨[], by rfl⟩, by rfl⟩, ⟨⟨rfl, ⟨[], by rfl⟩, by rfl⟩, ⟨⟨rfl, ⟨[], by rfl⟩, by rfl⟩, ⟨⟨rfl, ⟨[], by rfl⟩, by rfl⟩, ⟨⟨rfl, ⟨[], by rfl⟩, by rfl⟩, ⟨⟨rfl, ⟨[], by rfl⟩, by rfl⟩, ⟨⟨rfl, ⟨[], by rfl⟩, by rfl⟩, ⟨(show Zaa ([(⟨(1 : Int), (0 : Int)⟩ : R_ii)] : List R_ii) = Zaa ([(⟨(1 : Int), (0 : Int)⟩ : R_ii)] : List R_ii) from rfl), trivial⟩⟩⟩⟩⟩⟩⟩⟩⟩⟩⟩⟩⟩⟩⟩⟩⟩⟩⟩⟩⟩⟩⟩

end Ev
end Go.Proofs.YtgpekgedjmhmeaaGreat
/- Calls do what the plain functions say. -/
namespace Go.Proofs.YtgpekgedjmhmeaaGreat
open Go.RowKit
namespace Ev
set_option linter.unusedVariables false
set_option maxRecDepth 100000
theorem ZsX  (N : Nat) : (Zk  N).Ok Tryz.prog ZT (.h1m9 : Ze) (Z4  N (.h1m9 : Ze)) := by
 show (Zk  N).Ok Tryz.prog ZT (.h1m9 : Ze) (Zid  N)
 unfold Zid
 exact Mach.ok_next (M := Zk  N) (cd := 1000000) (cm := 0) (y := (.h1m10 : Ze)) (fu := 4000) (orc := (Zl [] [] [] [] [])) (live := [0, 67, 2, 3, 4, 5, 6, 7, 8, 38, 39, 11, 12, 13, 14, 15, 16, 17, 52, 18, 19, 20, 21, 22]) (tv := fun _ => [some (vp 0 0), some (vi 10)]) (bl := [some (.cells [vs 67 0 10 10, vn, vp 2 0, vs 3 0 1 1] 92), some (tcbe), some (tcb), some (Zcp), some (.cells [vi 400, vs 38 0 21 21, vs 39 0 21 21, vn, vn, vn, vn, vn, vn, vn, vn, vn, vn, vn, vn, vn, vn, vn, vn, vn] 184), some (Zco), some (ZdC), some (tcd), some (tcbi), some (tcm), some (tcbt), some (tci), some (tci), some (tca), some (tcg), some (.cells [vT, vf, vq, vi 3, vi 4, vq, vs 17 0 1 1, vs 52 0 1 1, vn, vq, vq, vq, vq, vq, vi 3, vi 3, vq, vq, vq, Value.nilFunc, Value.nilFunc, Value.nilFunc, vq, vq, vq, vq, vf, vq, vq, vq, vn, vq, Value.nilFunc, vq, vq, vq, vn, vq, vq, vq, vp 2 0, vq, Value.nilFunc, vq, vT, vi 1, vp 18 0, vp 19 0, vp 20 0, vn, vi 2, vi 1048594, vq] 221), some (tch), some (Zcw), some (Za5), some (Zyv), some (Zf6), some (ZcX), some (Za6), some (.ro (Zaa ([(⟨(1 : Int), (0 : Int)⟩ : R_ii)] : List R_ii)) true)]) (ob := []) rfl (show 1 ∈ ZZ (ZW 1) from by decide +kernel) (fun gv => by kernel_rfl) Zf rfl (by decide) (by rfl) (fun _ => ⟨rr, ⟨rr, trivial⟩⟩) ⟨⟨rfl, ⟨[], by rfl⟩, by rfl⟩, ⟨⟨rfl, ⟨[], by rfl⟩, by rfl⟩, ⟨⟨rfl, ⟨[], by rfl⟩, by rfl⟩, ⟨⟨rfl, ⟨[], by rfl⟩, by rfl⟩, ⟨⟨rfl, ⟨[], by rfl⟩, by rfl⟩, ⟨⟨rfl, ⟨[], by rfl⟩, by rfl⟩, ⟨⟨rfl, ⟨[], by rfl⟩, by rfl⟩, ⟨⟨rfl, ⟨[], by rfl⟩, by rfl⟩, ⟨⟨rfl, ⟨[], by rfl⟩, by rfl⟩, ⟨⟨rfl, ⟨[], by rfl⟩, by rfl⟩, ⟨⟨rfl, ⟨[], by rfl⟩, by rfl⟩, ⟨⟨rfl, ⟨[], by rfl⟩, by rfl⟩, ⟨⟨rfl, ⟨[], by rfl⟩, by rfl⟩, ⟨⟨rfl, ⟨[], by rfl⟩, by rfl⟩, ⟨⟨rfl, ⟨[], by rfl⟩, by rfl⟩, ⟨⟨rfl, ⟨[], by rfl⟩, by rfl⟩, ⟨⟨rfl, ⟨[], by rfl⟩, by rfl⟩, ⟨⟨rfl, ⟨[], by rfl⟩, by rfl⟩, ⟨⟨rfl, ⟨[], by rfl⟩, by rfl⟩, ⟨⟨rfl, ⟨[], by rfl⟩, by rfl⟩, ⟨⟨rfl, ⟨[], by rfl⟩, by rfl⟩, ⟨⟨rfl, ⟨[], by rfl⟩, by rfl⟩, ⟨⟨rfl, ⟨[], by rfl⟩, by rfl⟩, ⟨(show Zaa ([(⟨(1 : Int), (0 : Int)⟩ : R_ii)] : List R_ii) = Zaa ([(⟨(1 : Int), (0 : Int)⟩ : R_ii)] : List R_ii) from rfl), trivial⟩⟩⟩⟩⟩⟩⟩⟩⟩⟩⟩⟩⟩⟩⟩⟩⟩⟩⟩⟩⟩⟩⟩⟩

theorem Zsk  (N : Nat) : (Zk  N).Ok Tryz.prog ZT (.h1m10 : Ze) (Z4  N (.h1m10 : Ze)) := by
 show (Zk  N).Ok Tryz.prog ZT (.h1m10 : Ze) (Zhw  N)
 unfold Zhw
 exact Mach.ok_next (M := Zk  N) (cd := 1000000) (cm := 0) (y := (.h1m11 : Ze)) (fu := 4000) (orc := (Zl [] [] [] [] [])) (live := [0, 102, 2, 3, 4, 5, 6, 7, 8, 9, 10, 11, 12, 13, 14, 15, 16, 17, 18, 19, 20, 21, 22, 23, 91]) (tv := fun _ => [some (vp 0 0), some (vi 11)]) (bl := [some (.cells [vs 102 0 11 11, vn, vp 2 0, vs 3 0 1 1] 92), some (tcbb), some (tcb), some (Zcp), some (tcy), some (Zco), some (ZdC), some (tcd), some (tcl), some (tcm), some (tct), some (tci), some (tci), some (tca), some (tcg), some (.cells [vT, vf, vq, vi 3, vi 4, vq, vs 17 0 1 1, vs 18 0 1 1, vn, vi 2, vi 1048594, vi 2, vi 1, vi 5, vq, vq, vq, vq, vq, Value.func (.func 191) #[vp 15 0] #[], Value.func (.func 191) #[vp 15 0] #[], Value.func (.func 186) #[vp 15 0] #[], vq, vq, vq, vq, vf, vq, vq, vq, vn, vq, Value.nilFunc, vq, vq, vq, vn, vq, vq, vq, vp 2 0, vq, Value.nilFunc, vq, vT, vi 1, vp 19 0, vp 20 0, vp 21 0, vn, vi 2, vi 1048594, vq] 221), some (tch), some (Zcw), some (Za5), some (Zvz), some (.cells [vi 64, vs 91 0 1 1] 250), some (ZcX), some (Za6), some (.ro (Zaa ([(⟨(1 : Int), (0 : Int)⟩ : R_ii)] : List R_ii)) true), some (Zyw)]) (ob := []) rfl (show 1 ∈ ZZ (ZW 1) from by decide +kernel) (fun gv => by kernel_rfl) Zf rfl (by decide) (by rfl) (fun _ => ⟨rr, ⟨rr, trivial⟩⟩) ⟨⟨rfl, ⟨[], by rfl⟩, by rfl⟩, ⟨⟨rfl, ⟨[], by rfl⟩, by rfl⟩, ⟨⟨rfl, ⟨[], by rfl⟩, by rfl⟩, ⟨⟨rfl, ⟨[], by rfl⟩, by rfl⟩, ⟨⟨rfl, ⟨[], by rfl⟩, by rfl⟩, ⟨⟨rfl, ⟨[], by rfl⟩, by rfl⟩, ⟨⟨rfl, ⟨[], by rfl⟩, by rfl⟩, ⟨⟨rfl, ⟨[], by rfl⟩, by rfl⟩, ⟨⟨rfl, ⟨[], by rfl⟩, by rfl⟩, ⟨⟨rfl, ⟨[], by rfl⟩, by rfl⟩, ⟨⟨rfl, ⟨[], by rfl⟩, by rfl⟩, ⟨⟨rfl, ⟨[], by rfl⟩, by rfl⟩, ⟨⟨rfl, ⟨[], by rfl⟩, by rfl⟩, ⟨⟨rfl, ⟨[], by rfl⟩, by rfl⟩, ⟨⟨rfl, ⟨[], by rfl⟩, by rfl⟩, ⟨⟨rfl, ⟨[], by rfl⟩, by rfl⟩, ⟨⟨rfl, ⟨[], by rfl⟩, by rfl⟩, ⟨⟨rfl, ⟨[], by rfl⟩, by rfl⟩, ⟨⟨rfl, ⟨[], by rfl⟩, by rfl⟩, ⟨⟨rfl, ⟨[], by rfl⟩, by rfl⟩, ⟨⟨rfl, ⟨[], by rfl⟩, by rfl⟩, ⟨⟨rfl, ⟨[], by rfl⟩, by rfl⟩, ⟨⟨rfl, ⟨[], by rfl⟩, by rfl⟩, ⟨(show Zaa ([(⟨(1 : Int), (0 : Int)⟩ : R_ii)] : List R_ii) = Zaa ([(⟨(1 : Int), (0 : Int)⟩ : R_ii)] : List R_ii) from rfl), ⟨⟨rfl, ⟨[], by rfl⟩, by rfl⟩, trivial⟩⟩⟩⟩⟩⟩⟩⟩⟩⟩⟩⟩⟩⟩⟩⟩⟩⟩⟩⟩⟩⟩⟩⟩⟩

theorem Zsl  (N : Nat) : (Zk  N).Ok Tryz.prog ZT (.h1m11 : Ze) (Z4  N (.h1m11 : Ze)) := by
 show (Zk  N).Ok Tryz.prog ZT (.h1m11 : Ze) (Zhx  N)
 unfold Zhx
 exact Mach.ok_next (M := Zk  N) (cd := 1000000) (cm := 0) (y := (.h1m12 : Ze)) (fu := 4000) (orc := (Zl [] [] [] [] [])) (live := [0, 130, 2, 3, 4, 5, 6, 7, 8, 9, 10, 11, 12, 13, 14, 15, 16, 17, 18, 118, 19, 20, 21, 22, 23, 24]) (tv := fun _ => [some (vp 0 0), some (vi 12)]) (bl := [some (.cells [vs 130 0 12 12, vn, vp 2 0, vs 3 0 1 1] 92), some (tcaz), some (tcb), some (Zcp), some (tcy), some (Zco), some (ZdC), some (tcd), some (tcl), some (tcm), some (tct), some (tci), some (tci), some (tca), some (tcg), some (.cells [vT, vf, vq, vi 3, vi 4, vq, vs 17 0 1 1, vs 18 0 1 1, vn, vi 2, vi 1048577, vq, vi 2, vi 1048594, vq, vq, vq, vq, vq, Value.func (.func 191) #[vp 15 0] #[], Value.func (.func 191) #[vp 15 0] #[], Value.func (.func 186) #[vp 15 0] #[], vi 1, vq, vq, vq, vf, vq, vq, vq, vs 118 0 1 1, vq, Value.nilFunc, vq, vq, vq, vn, vq, vq, vq, vp 2 0, vq, Value.func (.func 247) #[vp 15 0] #[], vq, vT, vi 1, vp 19 0, vp 20 0, vp 21 0, vn, vi 2, vi 1048594, vq] 221), some (tch), some (Zcw), some (Za5), some (Za5), some (Zvz), some (.cells [vi 64, vs 24 0 1 1] 250), some (ZcX), some (Za6), some (.ro (Zaa ([(⟨(1 : Int), (0 : Int)⟩ : R_ii)] : List R_ii)) true), some (Zyw)]) (ob := []) rfl (show 1 ∈ ZZ (ZW 1) from by decide +kernel) (fun gv => by kernel_rfl) Zf rfl (by decide) (by rfl) (fun _ => ⟨rr, ⟨rr, trivial⟩⟩) ⟨⟨rfl, ⟨[], by rfl⟩, by rfl⟩, ⟨⟨rfl, ⟨[], by rfl⟩, by rfl⟩, ⟨⟨rfl, ⟨[], by rfl⟩, by rfl⟩, ⟨⟨rfl, ⟨[], by rfl⟩, by rfl⟩, ⟨⟨rfl, ⟨[], by rfl⟩, by rfl⟩, ⟨⟨rfl, ⟨[], by rfl⟩, by rfl⟩, ⟨⟨rfl, ⟨[], by rfl⟩, by rfl⟩, ⟨⟨rfl, ⟨[], by rfl⟩, by rfl⟩, ⟨⟨rfl, ⟨[], by rfl⟩, by rfl⟩, ⟨⟨rfl, ⟨[], by rfl⟩, by rfl⟩, ⟨⟨rfl, ⟨[], by rfl⟩, by rfl⟩, ⟨⟨rfl, ⟨[], by rfl⟩, by rfl⟩, ⟨⟨rfl, ⟨[], by rfl⟩, by rfl⟩, ⟨⟨rfl, ⟨[], by rfl⟩, by rfl⟩, ⟨⟨rfl, ⟨[], by rfl⟩, by rfl⟩, ⟨⟨rfl, ⟨[], by rfl⟩, by rfl⟩, ⟨⟨rfl, ⟨[], by rfl⟩, by rfl⟩, ⟨⟨rfl, ⟨[], by rfl⟩, by rfl⟩, ⟨⟨rfl, ⟨[], by rfl⟩, by rfl⟩, ⟨⟨rfl, ⟨[], by rfl⟩, by rfl⟩, ⟨⟨rfl, ⟨[], by rfl⟩, by rfl⟩, ⟨⟨rfl, ⟨[], by rfl⟩, by rfl⟩, ⟨⟨rfl, ⟨[], by rfl⟩, by rfl⟩, ⟨⟨rfl, ⟨[], by rfl⟩, by rfl⟩, ⟨(show Zaa ([(⟨(1 : Int), (0 : Int)⟩ : R_ii)] : List R_ii) = Zaa ([(⟨(1 : Int), (0 : Int)⟩ : R_ii)] : List R_ii) from rfl), ⟨⟨rfl, ⟨[], by rfl⟩, by rfl⟩, trivial⟩⟩⟩⟩⟩⟩⟩⟩⟩⟩⟩⟩⟩⟩⟩⟩⟩⟩⟩⟩⟩⟩⟩⟩⟩⟩

theorem Zsm  (N : Nat) : (Zk  N).Ok Tryz.prog ZT (.h1m12 : Ze) (Z4  N (.h1m12 : Ze)) := by
 show (Zk  N).Ok Tryz.prog ZT (.h1m12 : Ze) (Zhy  N)
 unfold Zhy
 exact Mach.ok_next (M := Zk  N) (cd := 1000000) (cm := 0) (y := (.h1m13 : Ze)) (fu := 4000) (orc := (Zl [] [] [] [] [])) (live := [0, 70, 2, 3, 4, 5, 6, 7, 8, 9, 10, 11, 12, 13, 14, 15, 16, 17, 18, 19, 20, 21, 22, 23, 24, 53]) (tv := fun _ => [some (vp 0 0), some (vi 13)]) (bl := [some (.cells [vs 70 0 13 13, vn, vp 2 0, vs 3 0 1 1] 92), some (tcaw), some (tcb), some (Zcp), some (tcy), some (Zco), some (ZdC), some (tcd), some (tcl), some (tcc), some (tct), some (tci), some (tci), some (tca), some (tcg), some (.cells [vT, vf, vq, vi 3, vi 4, vq, vs 17 0 1 1, vs 18 0 1 1, vn, vi 2, vi 1048577, vq, vi 2, vi 1048594, vq, vq, vq, vq, vq, Value.func (.func 191) #[vp 15 0] #[], Value.func (.func 191) #[vp 15 0] #[], Value.func (.func 186) #[vp 15 0] #[], vi 1, vq, vq, vq, vf, vq, vq, vq, vs 19 2 0 0, vq, Value.nilFunc, vq, vq, vq, vn, vq, vq, vq, vp 2 0, vq, Value.func (.func 236) #[vp 15 0] #[], vq, vT, vi 1, vp 20 0, vp 21 0, vp 22 0, vn, vi 2, vi 1048594, vq] 221), some (tch), some (Zcw), some (Za5), some (Za5), some (ZoI), some (.cells [vi 64, vs 53 0 2 2] 250), some (ZcX), some (Za6), some (.ro (Zaa ([(⟨(1 : Int), (0 : Int)⟩ : R_ii)] : List R_ii)) true), some (Zv0)]) (ob := []) rfl (show 1 ∈ ZZ (ZW 1) from by decide +kernel) (fun gv => by kernel_rfl) Zf rfl (by decide) (by rfl) (fun _ => ⟨rr, ⟨rr, trivial⟩⟩) ⟨⟨rfl, ⟨[], by rfl⟩, by rfl⟩, ⟨⟨rfl, ⟨[], by rfl⟩, by rfl⟩, ⟨⟨rfl, ⟨[], by rfl⟩, by rfl⟩, ⟨⟨rfl, ⟨[], by rfl⟩, by rfl⟩, ⟨⟨rfl, ⟨[], by rfl⟩, by rfl⟩, ⟨⟨rfl, ⟨[], by rfl⟩, by rfl⟩, ⟨⟨rfl, ⟨[], by rfl⟩, by rfl⟩, ⟨⟨rfl, ⟨[], by rfl⟩, by rfl⟩, ⟨⟨rfl, ⟨[], by rfl⟩, by rfl⟩, ⟨⟨rfl, ⟨[], by rfl⟩, by rfl⟩, ⟨⟨rfl, ⟨[], by rfl⟩, by rfl⟩, ⟨⟨rfl, ⟨[], by rfl⟩, by rfl⟩, ⟨⟨rfl, ⟨[], by rfl⟩, by rfl⟩, ⟨⟨rfl, ⟨[], by rfl⟩, by rfl⟩, ⟨⟨rfl, ⟨[], by rfl⟩, by rfl⟩, ⟨⟨rfl, ⟨[], by rfl⟩, by rfl⟩, ⟨⟨rfl, ⟨[], by rfl⟩, by rfl⟩, ⟨⟨rfl, ⟨[], by rfl⟩, by rfl⟩, ⟨⟨rfl, ⟨[], by rfl⟩, by rfl⟩, ⟨⟨rfl, ⟨[], by rfl⟩, by rfl⟩, ⟨⟨rfl, ⟨[], by rfl⟩, by rfl⟩, ⟨⟨rfl, ⟨[], by rfl⟩, by rfl⟩, ⟨⟨rfl, ⟨[], by rfl⟩, by rfl⟩, ⟨⟨rfl, ⟨[], by rfl⟩, by rfl⟩, ⟨(show Zaa ([(⟨(1 : Int), (0 : Int)⟩ : R_ii)] : List R_ii) = Zaa ([(⟨(1 : Int), (0 : Int)⟩ : R_ii)] : List R_ii) from rfl), ⟨⟨rfl, ⟨[], by rfl⟩, by rfl⟩, trivial⟩⟩⟩⟩⟩⟩⟩⟩⟩⟩⟩⟩⟩⟩⟩⟩⟩⟩⟩⟩⟩⟩⟩⟩⟩⟩

theorem Zsn  (N : Nat) : (Zk  N).Ok Tryz.prog ZT (.h1m13 : Ze) (Z4  N (.h1m13 : Ze)) := by
 show (Zk  N).Ok Tryz.prog ZT (.h1m13 : Ze) (Zhz  N)
 unfold Zhz
 exact Mach.ok_next (M := Zk  N) (cd := 1000000) (cm := 0) (y := (.h1m14 : Ze)) (fu := 4000) (orc := (Zl [] [] [] [] [])) (live := [0, 50, 2, 3, 4, 5, 6, 7, 8, 9, 10, 11, 12, 13, 14, 15, 16, 17, 18, 19, 20, 21, 22, 23, 24, 25]) (tv := fun _ => [some (vp 0 0), some (vi 14)]) (bl := [some (.cells [vs 50 0 14 14, vn, vp 2 0, vs 3 0 1 1] 92), some (tcav), some (tcb), some (Zcp), some (tcy), some (Zco), some (ZdC), some (tcd), some (tcl), some (tcc), some (tct), some (tci), some (tci), some (tca), some (tcg), some (.cells [vT, vf, vq, vi 3, vi 4, vq, vs 17 0 1 1, vs 18 0 1 1, vn, vi 2, vi 1048577, vq, vi 2, vi 1048594, vq, vq, vq, vq, vq, Value.func (.func 191) #[vp 15 0] #[], Value.func (.func 191) #[vp 15 0] #[], Value.func (.func 186) #[vp 15 0] #[], vi 1, vq, vq, vq, vf, vq, vq, vq, vs 19 2 0 0, vq, Value.nilFunc, vq, vq, vq, vn, vq, vq, vq, vp 2 0, vq, Value.func (.func 186) #[vp 15 0] #[], vq, vT, vi 1, vp 20 0, vp 21 0, vp 22 0, vn, vi 2, vi 1048594, vq] 221), some (tch), some (Zcw), some (Za5), some (Za5), some (ZoI), some (ZwV), some (ZcX), some (Za6), some (.ro (Zaa ([(⟨(1 : Int), (0 : Int)⟩ : R_ii)] : List R_ii)) true), some (Zv0)]) (ob := []) rfl (show 1 ∈ ZZ (ZW 1) from by decide +kernel) (fun gv => by kernel_rfl) Zf rfl (by decide) (by rfl) (fun _ => ⟨rr, ⟨rr, trivial⟩⟩) ⟨⟨rfl, ⟨[], by rfl⟩, by rfl⟩, ⟨⟨rfl, ⟨[], by rfl⟩, by rfl⟩, ⟨⟨rfl, ⟨[], by rfl⟩, by rfl⟩, ⟨⟨rfl, ⟨[], by rfl⟩, by rfl⟩, ⟨⟨rfl, ⟨[], by rfl⟩, by rfl⟩, ⟨⟨rfl, ⟨[], by rfl⟩, by rfl⟩, ⟨⟨rfl, ⟨[], by rfl⟩, by rfl⟩, ⟨⟨rfl, ⟨[], by rfl⟩, by rfl⟩, ⟨⟨rfl, ⟨[], by rfl⟩, by rfl⟩, ⟨⟨rfl, ⟨[], by rfl⟩, by rfl⟩, ⟨⟨rfl, ⟨[], by rfl⟩, by rfl⟩, ⟨⟨rfl, ⟨[], by rfl⟩, by rfl⟩, ⟨⟨rfl, ⟨[], by rfl⟩, by rfl⟩, ⟨⟨rfl, ⟨[], by rfl⟩, by rfl⟩, ⟨⟨rfl, ⟨[], by rfl⟩, by rfl⟩, ⟨⟨rfl, ⟨[], by rfl⟩, by rfl⟩, ⟨⟨rfl, ⟨[], by rfl⟩, by rfl⟩, ⟨⟨rfl, ⟨[], by rfl⟩, by rfl⟩, ⟨⟨rfl, ⟨[], by rfl⟩, by rfl⟩, ⟨⟨rfl, ⟨[], by rfl⟩, by rfl⟩, ⟨⟨rfl, ⟨[], by rfl⟩, by rfl⟩, ⟨⟨rfl, ⟨[], by rfl⟩, by rfl⟩, ⟨⟨rfl, ⟨[], by rfl⟩, by rfl⟩, ⟨⟨rfl, ⟨[], by rfl⟩, by rfl⟩, ⟨(show Zaa ([(⟨(1 : Int), (0 : Int)⟩ : R_ii)] : List R_ii) = Zaa ([(⟨(1 : Int), (0 : Int)⟩ : R_ii)] : List R_ii) from rfl), ⟨⟨rfl, ⟨[], by rfl⟩, by rfl⟩, trivial⟩⟩⟩⟩⟩⟩⟩⟩⟩⟩⟩⟩⟩⟩⟩⟩⟩⟩⟩⟩⟩⟩⟩⟩⟩⟩

theorem Zso  (N : Nat) : (Zk  N).Ok Tryz.prog ZT (.h1m14 : Ze) (Z4  N (.h1m14 : Ze)) := by
 show (Zk  N).Ok Tryz.prog ZT (.h1m14 : Ze) (Zh0  N)
 unfold Zh0
 exact Mach.ok_next (M := Zk  N) (cd := 1000000) (cm := 0) (y := (.h1m15 : Ze)) (fu := 4000) (orc := (Zl [(65, true)] [] [] [] [])) (live := [0, 54, 2, 3, 4, 5, 6, 7, 8, 9, 10, 11, 12, 13, 14, 15, 16, 17, 18, 19, 20, 21, 22, 23, 24, 25, 42]) (tv := fun _ => [some (vp 0 0), some (vi 15)]) (bl := [some (.cells [vs 54 0 15 15, vn, vp 2 0, vs 3 0 1 1] 92), some (tcat), some (tcb), some (Zcp), some (tcy), some (Zco), some (ZdC), some (tcd), some (tcl), some (tcc), some (tct), some (tcu), some (tcu), some (tca), some (tcg), some (.cells [vT, vf, vq, vi 3, vi 4, vq, vs 17 0 1 1, vs 18 0 1 1, vn, vi 2, vi 1048577, vq, vi 2, vi 1048594, vq, vq, vq, vq, vq, Value.func (.func 191) #[vp 15 0] #[], Value.func (.func 191) #[vp 15 0] #[], Value.func (.func 186) #[vp 15 0] #[], vi 1, vq, vq, vq, vf, vq, vq, vq, vs 19 2 0 0, vq, Value.nilFunc, vq, vq, vq, vn, vq, vq, vq, vp 2 0, vq, Value.func (.func 191) #[vp 15 0] #[], vq, vT, vi 1, vp 20 0, vp 21 0, vp 22 0, vn, vi 2, vi 1048594, vq] 221), some (tch), some (Zcw), some (Za5), some (Za5), some (ZoI), some (ZwV), some (.cells [vT, vs 42 0 1 1] 254), some (Za6), some (.ro (Zaa ([(⟨(1 : Int), (0 : Int)⟩ : R_ii)] : List R_ii)) true), some (Zv0), some (Za6)]) (ob := [(((0 : Int) == (0 : Int)), true)]) rfl (show 1 ∈ ZZ (ZW 1) from by decide +kernel) (fun gv => by kernel_rfl) (oT Zf) rfl (by decide) (by rfl) (fun _ => ⟨rr, ⟨rr, trivial⟩⟩) ⟨⟨rfl, ⟨[], by rfl⟩, by rfl⟩, ⟨⟨rfl, ⟨[], by rfl⟩, by rfl⟩, ⟨⟨rfl, ⟨[], by rfl⟩, by rfl⟩, ⟨⟨rfl, ⟨[], by rfl⟩, by rfl⟩, ⟨⟨rfl, ⟨[], by rfl⟩, by rfl⟩, ⟨⟨rfl, ⟨[], by rfl⟩, by rfl⟩, ⟨⟨rfl, ⟨[], by rfl⟩, by rfl⟩, ⟨⟨rfl, ⟨[], by rfl⟩, by rfl⟩, ⟨⟨rfl, ⟨[], by rfl⟩, by rfl⟩, ⟨⟨rfl, ⟨[], by rfl⟩, by rfl⟩, ⟨⟨rfl, ⟨[], by rfl⟩, by rfl⟩, ⟨⟨rfl, ⟨[], by rfl⟩, by rfl⟩, ⟨⟨rfl, ⟨[], by rfl⟩, by rfl⟩, ⟨⟨rfl, ⟨[], by rfl⟩, by rfl⟩, ⟨⟨rfl, ⟨[], by rfl⟩, by rfl⟩, ⟨⟨rfl, ⟨[], by rfl⟩, by rfl⟩, ⟨⟨rfl, ⟨[], by rfl⟩, by rfl⟩, ⟨⟨rfl, ⟨[], by rfl⟩, by rfl⟩, ⟨⟨rfl, ⟨[], by rfl⟩, by rfl⟩, ⟨⟨rfl, ⟨[], by rfl⟩, by rfl⟩, ⟨⟨rfl, ⟨[], by rfl⟩, by rfl⟩, ⟨⟨rfl, ⟨[], by rfl⟩, by rfl⟩, ⟨⟨rfl, ⟨[], by rfl⟩, by rfl⟩, ⟨⟨rfl, ⟨[], by rfl⟩, by rfl⟩, ⟨(show Zaa ([(⟨(1 : Int), (0 : Int)⟩ : R_ii)] : List R_ii) = Zaa ([(⟨(1 : Int), (0 : Int)⟩ : R_ii)] : List R_ii) from rfl), ⟨⟨rfl, ⟨[], by rfl⟩, by rfl⟩, ⟨⟨rfl, ⟨[], by rfl⟩, by rfl⟩, trivial⟩⟩⟩⟩⟩⟩⟩⟩⟩⟩⟩⟩⟩⟩⟩⟩⟩⟩⟩⟩⟩⟩⟩⟩⟩⟩⟩

theorem Zsp  (N : Nat) : (Zk  N).Ok Tryz.prog ZT (.h1m15 : Ze) (Z4  N (.h1m15 : Ze)) := by
 show (Zk  N).Ok Tryz.prog ZT (.h1m15 : Ze) (Zh1  N)
 unfold Zh1
 exact Mach.ok_next (M := Zk  N) (cd := 1000000) (cm := 0) (y := (.h1m16 : Ze)) (fu := 4000) (orc := (Zl [] [] [] [] [])) (live := [0, 85, 2, 3, 4, 5, 6, 7, 8, 9, 10, 11, 12, 13, 14, 15, 16, 17, 18, 19, 20, 21, 22, 23, 24, 74, 26]) (tv := fun _ => [some (vp 0 0), some (vi 16)]) (bl := [some (.cells [vs 85 0 16 16, vn, vp 2 0, vs 3 0 1 1] 92), some (tcar), some (tcb), some (Zcp), some (tcy), some (Zco), some (ZdC), some (tcd), some (ZwU), some (tcc), some (tcj), some (tcu), some (tcu), some (tca), some (tcg), some (.cells [vT, vf, vq, vi 3, vi 4, vq, vs 17 0 1 1, vs 18 0 1 1, vn, vi 2, vi 1048577, vq, vi 2, vi 1048594, vq, vq, vq, vq, vq, Value.func (.func 191) #[vp 15 0] #[], Value.func (.func 191) #[vp 15 0] #[], Value.func (.func 186) #[vp 15 0] #[], vi 1, vq, vq, vq, vf, vq, vq, vq, vs 19 2 0 0, vq, Value.nilFunc, vq, vq, vq, vn, vq, vq, vq, vp 2 0, vq, Value.nilFunc, vq, vT, vi 1, vp 20 0, vp 21 0, vp 22 0, vn, vi 2, vi 1048594, vq] 221), some (tch), some (Zcw), some (Za5), some (Za5), some (ZoI), some (.cells [vi 64, vs 74 0 3 3] 250), some (Zyx), some (Za6), some (.ro (Zaa ([(⟨(1 : Int), (0 : Int)⟩ : R_ii)] : List R_ii)) true), some (tcq), some (Za6)]) (ob := []) rfl (show 1 ∈ ZZ (ZW 1) from by decide +kernel) (fun gv => by kernel_rfl) Zf rfl (by decide) (by rfl) (fun _ => ⟨rr, ⟨rr, trivial⟩⟩) ⟨⟨rfl, ⟨[], by rfl⟩, by rfl⟩, ⟨⟨rfl, ⟨[], by rfl⟩, by rfl⟩, ⟨⟨rfl, ⟨[], by rfl⟩, by rfl⟩, ⟨⟨rfl, ⟨[], by rfl⟩, by rfl⟩, ⟨⟨rfl, ⟨[], by rfl⟩, by rfl⟩, ⟨⟨rfl, ⟨[], by rfl⟩, by rfl⟩, ⟨⟨rfl, ⟨[], by rfl⟩, by rfl⟩, ⟨⟨rfl, ⟨[], by rfl⟩, by rfl⟩, ⟨⟨rfl, ⟨[], by rfl⟩, by rfl⟩, ⟨⟨rfl, ⟨[], by rfl⟩, by rfl⟩, ⟨⟨rfl, ⟨[], by rfl⟩, by rfl⟩, ⟨⟨rfl, ⟨[], by rfl⟩, by rfl⟩, ⟨⟨rfl, ⟨[], by rfl⟩, by rfl⟩, ⟨⟨rfl, ⟨[], by rfl⟩, by rfl⟩, ⟨⟨rfl, ⟨[], by rfl⟩, by rfl⟩, ⟨⟨rfl, ⟨[], by rfl⟩, by rfl⟩, ⟨⟨rfl, ⟨[], by rfl⟩, by rfl⟩, ⟨⟨rfl, ⟨[], by rfl⟩, by rfl⟩, ⟨⟨rfl, ⟨[], by rfl⟩, by rfl⟩, ⟨⟨rfl, ⟨[], by rfl⟩, by rfl⟩, ⟨⟨rfl, ⟨[], by rfl⟩, by rfl⟩, ⟨⟨rfl, ⟨[], by rfl⟩, by rfl⟩, ⟨⟨rfl, ⟨[], by rfl⟩, by rfl⟩, ⟨⟨rfl, ⟨[], by rfl⟩, by rfl⟩, ⟨(show Zaa ([(⟨(1 : Int), (0 : Int)⟩ : R_ii)] : List R_ii) = Zaa ([(⟨(1 : Int), (0 : Int)⟩ : R_ii)] : List R_ii) from rfl), ⟨⟨rfl, ⟨[], by rfl⟩, by rfl⟩, ⟨⟨rfl, ⟨[], by rfl⟩, by rfl⟩, trivial⟩⟩⟩⟩⟩⟩⟩⟩⟩⟩⟩⟩⟩⟩⟩⟩⟩⟩⟩⟩⟩⟩⟩⟩⟩⟩⟩

theorem Zsq  (N : Nat) : (Zk  N).Ok Tryz.prog ZT (.h1m16 : Ze) (Z4  N (.h1m16 : Ze)) := by
 show (Zk  N).Ok Tryz.prog ZT (.h1m16 : Ze) (Zh2  N)
 unfold Zh2
 exact Mach.ok_next (M := Zk  N) (cd := 1000000) (cm := 0) (y := (.h1m17 : Ze)) (fu := 4000) (orc := (Zl [] [] [] [] [])) (live := [0, 49, 2, 3, 4, 5, 6, 7, 8, 9, 10, 11, 12, 13, 14, 15, 16, 17, 18, 20, 21, 22, 23, 24, 25, 26]) (tv := fun _ => [some (vp 0 0), some (vi 17)]) (bl := [some (.cells [vs 49 0 17 17, vn, vp 2 0, vs 3 0 1 1] 92), some (tcap), some (tcn), some (Zcp), some (tcy), some (Zco), some (ZiG), some (tcd), some (ZwU), some (tcc), some (tcj), some (tcu), some (tcu), some (tca), some (tcg), some (.cells [vT, vf, vq, vi 3, vi 4, vi 17, vs 17 0 1 1, vs 18 0 1 1, vn, vq, vq, vq, vq, vq, vq, vq, vq, vq, vq, Value.nilFunc, Value.nilFunc, Value.nilFunc, vq, vq, vq, vq, vf, vq, vq, vq, vn, vq, Value.func (.func 222) #[vp 15 0] #[], vq, vq, vi 1, vn, vq, vq, vq, vp 2 0, vq, Value.func (.func 223) #[vp 15 0] #[], vq, vT, vi 1, vp 20 0, vp 21 0, vp 22 0, vn, vi 2, vi 1048594, vq] 221), some (tch), some (Zcw), some (Za5), some (ZoI), some (.cells [vi 64, vs 25 0 3 3] 250), some (Zyx), some (Za6), some (.ro (Zaa ([(⟨(1 : Int), (0 : Int)⟩ : R_ii)] : List R_ii)) true), some (tcq), some (Za6)]) (ob := []) rfl (show 1 ∈ ZZ (ZW 1) from by decide +kernel) (fun gv => by kernel_rfl) Zf rfl (by decide) (by rfl) (fun _ => ⟨rr, ⟨rr, trivial⟩⟩) ⟨⟨rfl, ⟨[], by rfl⟩, by rfl⟩, ⟨⟨rfl, ⟨[], by rfl⟩, by rfl⟩, ⟨⟨rfl, ⟨[], by rfl⟩, by rfl⟩, ⟨⟨rfl, ⟨[], by rfl⟩, by rfl⟩, ⟨⟨rfl, ⟨[], by rfl⟩, by rfl⟩, ⟨⟨rfl, ⟨[], by rfl⟩, by rfl⟩, ⟨⟨rfl, ⟨[], by rfl⟩, by rfl⟩, ⟨⟨rfl, ⟨[], by rfl⟩, by rfl⟩, ⟨⟨rfl, ⟨[], by rfl⟩, by rfl⟩, ⟨⟨rfl, ⟨[], by rfl⟩, by rfl⟩, ⟨⟨rfl, ⟨[], by rfl⟩, by rfl⟩, ⟨⟨rfl, ⟨[], by rfl⟩, by rfl⟩, ⟨⟨rfl, ⟨[], by rfl⟩, by rfl⟩, ⟨⟨rfl, ⟨[], by rfl⟩, by rfl⟩, ⟨⟨rfl, ⟨[], by rfl⟩, by rfl⟩, ⟨⟨rfl, ⟨[], by rfl⟩, by rfl⟩, ⟨⟨rfl, ⟨[], by rfl⟩, by rfl⟩, ⟨⟨rfl, ⟨[], by rfl⟩, by rfl⟩, ⟨⟨rfl, ⟨[], by rfl⟩, by rfl⟩, ⟨⟨rfl, ⟨[], by rfl⟩, by rfl⟩, ⟨⟨rfl, ⟨[], by rfl⟩, by rfl⟩, ⟨⟨rfl, ⟨[], by rfl⟩, by rfl⟩, ⟨⟨rfl, ⟨[], by rfl⟩, by rfl⟩, ⟨(show Zaa ([(⟨(1 : Int), (0 : Int)⟩ : R_ii)] : List R_ii) = Zaa ([(⟨(1 : Int), (0 : Int)⟩ : R_ii)] : List R_ii) from rfl), ⟨⟨rfl, ⟨[], by rfl⟩, by rfl⟩, ⟨⟨rfl, ⟨[], by rfl⟩, by rfl⟩, trivial⟩⟩⟩⟩⟩⟩⟩⟩⟩⟩⟩⟩⟩⟩⟩⟩⟩⟩⟩⟩⟩⟩⟩⟩⟩⟩

theorem Zsr  (N : Nat) : (Zk  N).Ok Tryz.prog ZT (.h1m17 : Ze) (Z4  N (.h1m17 : Ze)) := by
 show (Zk  N).Ok Tryz.prog ZT (.h1m17 : Ze) (Zh3  N)
 unfold Zh3
 exact Mach.ok_next (M := Zk  N) (cd := 1000000) (cm := 0) (y := (.h1m18 : Ze)) (fu := 4000) (orc := (Zl [] [] [] [] [])) (live := [0, 60, 63, 2, 3, 51, 4, 5, 6, 7, 8, 9, 10, 11, 12, 13, 14, 15, 16, 17, 18, 19, 20, 21, 22, 23, 24, 25]) (tv := fun _ => [some (vp 0 0), some (vi 18)]) (bl := [some (.cells [vs 60 0 18 18, vs 63 0 1 1, vp 2 0, vs 3 0 1 1] 92), some (tcao), some (.cells [vi 2, vq, vi 2, vi 3, vi 17, vi 18, vs 51 0 1 1, vq] 100), some (tcn), some (Zcp), some (Za5), some (tcy), some (Zco), some (ZiG), some (tcd), some (ZwU), some (tcc), some (tcj), some (tcu), some (tcu), some (tca), some (tcg), some (.cells [vT, vT, vq, vi 3, vi 4, vi 17, vs 17 0 1 1, vs 18 0 1 1, vn, vq, vq, vq, vq, vq, vq, vq, vq, vq, vq, Value.nilFunc, Value.nilFunc, Value.nilFunc, vq, vq, vq, vq, vf, vq, vq, vq, vn, vi 1, Value.func (.func 222) #[vp 15 0] #[], vq, vq, vi 1, vn, vq, vq, vq, vp 2 0, vq, Value.func (.func 274) #[vp 15 0] #[], vq, vT, vi 1, vp 19 0, vp 20 0, vp 21 0, vn, vi 2, vi 1048594, vq] 221), some (tch), some (Zcw), some (Za5), some (Zvz), some (.cells [vi 64, vs 24 0 3 3] 250), some (.cells [vT, vs 25 0 1 1] 254), some (Za6), some (.ro (Zaa ([(⟨(1 : Int), (0 : Int)⟩ : R_ii)] : List R_ii)) true), some (tcq), some (Za6)]) (ob := []) rfl (show 1 ∈ ZZ (ZW 1) from by decide +kernel) (fun gv => by kernel_rfl) Zf rfl (by decide) (by rfl) (fun _ => ⟨rr, ⟨rr, trivial⟩⟩) ⟨⟨rfl, ⟨[], by rfl⟩, by rfl⟩, ⟨⟨rfl, ⟨[], by rfl⟩, by rfl⟩, ⟨⟨rfl, ⟨[], by rfl⟩, by rfl⟩, ⟨⟨rfl, ⟨[], by rfl⟩, by rfl⟩, ⟨⟨rfl, ⟨[], by rfl⟩, by rfl⟩, ⟨⟨rfl, ⟨[], by rfl⟩, by rfl⟩, ⟨⟨rfl, ⟨[], by rfl⟩, by rfl⟩, ⟨⟨rfl, ⟨[], by rfl⟩, by rfl⟩, ⟨⟨rfl, ⟨[], by rfl⟩, by rfl⟩, ⟨⟨rfl, ⟨[], by rfl⟩, by rfl⟩, ⟨⟨rfl, ⟨[], by rfl⟩, by rfl⟩, ⟨⟨rfl, ⟨[], by rfl⟩, by rfl⟩, ⟨⟨rfl, ⟨[], by rfl⟩, by rfl⟩, ⟨⟨rfl, ⟨[], by rfl⟩, by rfl⟩, ⟨⟨rfl, ⟨[], by rfl⟩, by rfl⟩, ⟨⟨rfl, ⟨[], by rfl⟩, by rfl⟩, ⟨⟨rfl, ⟨[], by rfl⟩, by rfl⟩, ⟨⟨rfl, ⟨[], by rfl⟩, by rfl⟩, ⟨⟨rfl, ⟨[], by rfl⟩, by rfl⟩, ⟨⟨rfl, ⟨[], by rfl⟩, by rfl⟩, ⟨⟨rfl, ⟨[], by rfl⟩, by rfl⟩, ⟨⟨rfl, ⟨[], by rfl⟩, by rfl⟩, ⟨⟨rfl, ⟨[], by rfl⟩, by rfl⟩, ⟨⟨rfl, ⟨[], by rfl⟩, by rfl⟩, ⟨⟨rfl, ⟨[], by rfl⟩, by rfl⟩, ⟨(show Zaa ([(⟨(1 : Int), (0 : Int)⟩ : R_ii)] : List R_ii) = Zaa ([(⟨(1 : Int), (0 : Int)⟩ : R_ii)] : List R_ii) from rfl), ⟨⟨rfl, ⟨[], by rfl⟩, by rfl⟩, ⟨⟨rfl, ⟨[], by rfl⟩, by rfl⟩, trivial⟩⟩⟩⟩⟩⟩⟩⟩⟩⟩⟩⟩⟩⟩⟩⟩⟩⟩⟩⟩⟩⟩⟩⟩⟩⟩⟩⟩

theorem Zss  (N : Nat) : (Zk  N).Ok Tryz.prog ZT (.h1m18 : Ze) (Z4  N (.h1m18 : Ze)) := by
 show (Zk  N).Ok Tryz.prog ZT (.h1m18 : Ze) (Zh4  N)
 unfold Zh4
 exact Mach.ok_next (M := Zk  N) (cd := 1000000) (cm := 0) (y := (.h1m19 : Ze)) (fu := 4000) (orc := (Zl [] [] [] [] [])) (live := [0, 59, 2, 3, 4, 5, 6, 7, 8, 9, 10, 11, 12, 13, 14, 15, 16, 17, 18, 19, 20, 21, 22, 23, 24, 25, 26, 27]) (tv := fun _ => [some (vp 0 0), some (vi 19)]) (bl := [some (.cells [vs 59 0 19 19, vs 2 0 1 1, vp 3 0, vs 4 0 1 1] 92), some (tcam), some (Zma), some (tco), some (Zmc), some (Za5), some (ZlZ), some (Zmb), some (ZiG), some (tcd), some (tcv), some (tcc), some (tcj), some (ZoJ), some (tcu), some (tca), some (tcg), some (.cells [vT, vT, vq, vi 3, vi 4, vi 17, vs 19 0 1 1, vs 20 0 1 1, vn, vq, vq, vq, vq, vq, vq, vq, vq, vq, vq, Value.nilFunc, Value.nilFunc, Value.nilFunc, vq, vq, vq, vq, vf, vq, vq, vq, vn, vi 1, Value.func (.func 222) #[vp 17 0] #[], vq, vq, vi 1, vn, vq, vq, vq, vp 3 0, vq, Value.func (.func 319) #[vp 17 0] #[], vq, vT, vi 1, vp 21 0, vp 22 0, vp 23 0, vn, vi 2, vi 1048594, vq] 221), some (ZlY), some (Zcw), some (Za5), some (Zqs), some (Zqt), some (Zsi), some (Za6), some (.ro (Zaa ([(⟨(1 : Int), (0 : Int)⟩ : R_ii)] : List R_ii)) true), some (tcq), some (Za6)]) (ob := []) rfl (show 1 ∈ ZZ (ZW 1) from by decide +kernel) (fun gv => by kernel_rfl) Zf rfl (by decide) (by rfl) (fun _ => ⟨rr, ⟨rr, trivial⟩⟩) ⟨⟨rfl, ⟨[], by rfl⟩, by rfl⟩, ⟨⟨rfl, ⟨[], by rfl⟩, by rfl⟩, ⟨⟨rfl, ⟨[], by rfl⟩, by rfl⟩, ⟨⟨rfl, ⟨[], by rfl⟩, by rfl⟩, ⟨⟨rfl, ⟨[], by rfl⟩, by rfl⟩, ⟨⟨rfl, ⟨[], by rfl⟩, by rfl⟩, ⟨⟨rfl, ⟨[], by rfl⟩, by rfl⟩, ⟨⟨rfl, ⟨[], by rfl⟩, by rfl⟩, ⟨⟨rfl, ⟨[], by rfl⟩, by rfl⟩, ⟨⟨rfl, ⟨[], by rfl⟩, by rfl⟩, ⟨⟨rfl, ⟨[], by rfl⟩, by rfl⟩, ⟨⟨rfl, ⟨[], by rfl⟩, by rfl⟩, ⟨⟨rfl, ⟨[], by rfl⟩, by rfl⟩, ⟨⟨rfl, ⟨[], by rfl⟩, by rfl⟩, ⟨⟨rfl, ⟨[], by rfl⟩, by rfl⟩, ⟨⟨rfl, ⟨[], by rfl⟩, by rfl⟩, ⟨⟨rfl, ⟨[], by rfl⟩, by rfl⟩, ⟨⟨rfl, ⟨[], by rfl⟩, by rfl⟩, ⟨⟨rfl, ⟨[], by rfl⟩, by rfl⟩, ⟨⟨rfl, ⟨[], by rfl⟩, by rfl⟩, ⟨⟨rfl, ⟨[], by rfl⟩, by rfl⟩, ⟨⟨rfl, ⟨[], by rfl⟩, by rfl⟩, ⟨⟨rfl, ⟨[], by rfl⟩, by rfl⟩, ⟨⟨rfl, ⟨[], by rfl⟩, by rfl⟩, ⟨⟨rfl, ⟨[], by rfl⟩, by rfl⟩, ⟨(show Zaa ([(⟨(1 : Int), (0 : Int)⟩ : R_ii)] : List R_ii) = Zaa ([(⟨(1 : Int), (0 : Int)⟩ : R_ii)] : List R_ii) from rfl), ⟨⟨rfl, ⟨[], by rfl⟩, by rfl⟩, ⟨⟨rfl, ⟨[], by rfl⟩, by rfl⟩, trivial⟩⟩⟩⟩⟩⟩⟩⟩⟩⟩⟩⟩⟩⟩⟩⟩⟩⟩⟩⟩⟩⟩⟩⟩⟩⟩⟩⟩

theorem Zst  (N : Nat) : (Zk  N).Ok Tryz.prog ZT (.h1m19 : Ze) (Z4  N (.h1m19 : Ze)) := by
 show (Zk  N).Ok Tryz.prog ZT (.h1m19 : Ze) (Zh5  N)
 unfold Zh5
 exact Mach.ok_next (M := Zk  N) (cd := 1000000) (cm := 0) (y := (.h1m20 : Ze)) (fu := 4000) (orc := (Zl [] [] [] [] [])) (live := [0, 47, 2, 3, 4, 5, 6, 7, 8, 9, 10, 11, 12, 13, 14, 15, 16, 17, 18, 19, 20, 21, 22, 23, 24, 25, 26, 27]) (tv := fun _ => [some (vp 0 0), some (vi 20)]) (bl := [some (.cells [vs 47 0 20 20, vs 2 0 1 1, vp 3 0, vs 4 0 1 1] 92), some (tcal), some (Zma), some (tcf), some (Zmc), some (Za5), some (ZlZ), some (Zmb), some (ZiG), some (tcr), some (tcv), some (tcc), some (tcj), some (ZoJ), some (tcu), some (tca), some (tcg), some (.cells [vT, vT, vq, vi 3, vi 4, vi 17, vs 19 0 1 1, vs 20 0 1 1, vn, vq, vq, vq, vq, vq, vq, vq, vq, vq, vq, Value.nilFunc, Value.nilFunc, Value.nilFunc, vq, vq, vq, vq, vf, vq, vq, vq, vn, vi 1, Value.func (.func 222) #[vp 17 0] #[], vq, vq, vi 1, vn, vq, vq, vq, vp 3 0, vq, Value.func (.func 343) #[vp 17 0] #[], vq, vT, vi 1, vp 21 0, vp 22 0, vp 23 0, vn, vi 2, vi 1048594, vq] 221), some (ZlY), some (Zcw), some (Za5), some (Zqs), some (Zqt), some (Zsi), some (Za6), some (.ro (Zaa ([(⟨(1 : Int), (0 : Int)⟩ : R_ii)] : List R_ii)) true), some (tcq), some (Za6)]) (ob := []) rfl (show 1 ∈ ZZ (ZW 1) from by decide +kernel) (fun gv => by kernel_rfl) Zf rfl (by decide) (by rfl) (fun _ => ⟨rr, ⟨rr, trivial⟩⟩) ⟨⟨rfl, ⟨[], by rfl⟩, by rfl⟩, ⟨⟨rfl, ⟨[], by rfl⟩, by rfl⟩, ⟨⟨rfl, ⟨[], by rfl⟩, by rfl⟩, ⟨⟨rfl, ⟨[], by rfl⟩, by rfl⟩, ⟨⟨rfl, ⟨[], by rfl⟩, by rfl⟩, ⟨⟨rfl, ⟨[], by rfl⟩, by rfl⟩, ⟨⟨rfl, ⟨[], by rfl⟩, by rfl⟩, ⟨⟨rfl, ⟨[], by rfl⟩, by rfl⟩, ⟨⟨rfl, ⟨[], by rfl⟩, by rfl⟩, ⟨⟨rfl, ⟨[], by rfl⟩, by rfl⟩, ⟨⟨rfl, ⟨[], by rfl⟩, by rfl⟩, ⟨⟨rfl, ⟨[], by rfl⟩, by rfl⟩, ⟨⟨rfl, ⟨[], by rfl⟩, by rfl⟩, ⟨⟨rfl, ⟨[], by rfl⟩, by rfl⟩, ⟨⟨rfl, ⟨[], by rfl⟩, by rfl⟩, ⟨⟨rfl, ⟨[], by rfl⟩, by rfl⟩, ⟨⟨rfl, ⟨[], by rfl⟩, by rfl⟩, ⟨⟨rfl, ⟨[], by rfl⟩, by rfl⟩, ⟨⟨rfl, ⟨[], by rfl⟩, by rfl⟩, ⟨⟨rfl, ⟨[], by rfl⟩, by rfl⟩, ⟨⟨rfl, ⟨[], by rfl⟩, by rfl⟩, ⟨⟨rfl, ⟨[], by rfl⟩, by rfl⟩, ⟨⟨rfl, ⟨[], by rfl⟩, by rfl⟩, ⟨⟨rfl, ⟨[], by rfl⟩, by rfl⟩, ⟨⟨rfl, ⟨[], by rfl⟩, by rfl⟩, ⟨(show Zaa ([(⟨(1 : Int), (0 : Int)⟩ : R_ii)] : List R_ii) = Zaa ([(⟨(1 : Int), (0 : Int)⟩ : R_ii)] : List R_ii) from rfl), ⟨⟨rfl, ⟨[], by rfl⟩, by rfl⟩, ⟨⟨rfl, ⟨[], by rfl⟩, by rfl⟩, trivial⟩⟩⟩⟩⟩⟩⟩⟩⟩⟩⟩⟩⟩⟩⟩⟩⟩⟩⟩⟩⟩⟩⟩⟩⟩⟩⟩⟩

theorem Zsu  (N : Nat) : (Zk  N).Ok Tryz.prog ZT (.h1m20 : Ze) (Z4  N (.h1m20 : Ze)) := by
 show (Zk  N).Ok Tryz.prog ZT (.h1m20 : Ze) (Zh6  N)
 unfold Zh6
 exact Mach.ok_next (M := Zk  N) (cd := 1000000) (cm := 0) (y := (.h1m21 : Ze)) (fu := 4000) (orc := (Zl [] [] [] [] [])) (live := [0, 49, 2, 3, 4, 5, 6, 7, 8, 9, 10, 11, 12, 13, 14, 15, 16, 17, 18, 19, 20, 37, 21, 22, 23, 24, 25, 26, 27]) (tv := fun _ => [some (vp 0 0), some (vi 21)]) (bl := [some (.cells [vs 49 0 21 21, vs 2 0 1 1, vp 3 0, vs 4 0 1 1] 92), some (tcaj), some (Zma), some (tcf), some (Zmc), some (Za5), some (ZlZ), some (Zmb), some (ZiG), some (tcr), some (tcv), some (tcc), some (tcj), some (ZoJ), some (tcu), some (tca), some (tcg), some (.cells [vT, vT, vq, vi 3, vi 4, vi 17, vs 19 0 1 1, vs 20 0 1 1, vn, vq, vq, vq, vq, vq, vq, vq, vq, vq, vq, Value.nilFunc, Value.nilFunc, Value.nilFunc, vq, vq, vq, vq, vf, vq, vq, vq, vn, vi 1, Value.func (.func 222) #[vp 17 0] #[], vq, vq, vi 1, vs 37 0 1 1, vq, vq, vq, vp 3 0, vq, Value.func (.func 349) #[vp 17 0] #[], vq, vT, vi 1, vp 21 0, vp 22 0, vp 23 0, vn, vi 2, vi 1048594, vq] 221), some (ZlY), some (Zcw), some (Za5), some (.cells [vi 2] 3), some (Zqs), some (Zqt), some (Zsi), some (Za6), some (.ro (Zaa ([(⟨(1 : Int), (0 : Int)⟩ : R_ii)] : List R_ii)) true), some (tcq), some (Za6)]) (ob := []) rfl (show 1 ∈ ZZ (ZW 1) from by decide +kernel) (fun gv => by kernel_rfl) Zf rfl (by decide) (by rfl) (fun _ => ⟨rr, ⟨rr, trivial⟩⟩) ⟨⟨rfl, ⟨[], by rfl⟩, by rfl⟩, ⟨⟨rfl, ⟨[], by rfl⟩, by rfl⟩, ⟨⟨rfl, ⟨[], by rfl⟩, by rfl⟩, ⟨⟨rfl, ⟨[], by rfl⟩, by rfl⟩, ⟨⟨rfl, ⟨[], by rfl⟩, by rfl⟩, ⟨⟨rfl, ⟨[], by rfl⟩, by rfl⟩, ⟨⟨rfl, ⟨[], by rfl⟩, by rfl⟩, ⟨⟨rfl, ⟨[], by rfl⟩, by rfl⟩, ⟨⟨rfl, ⟨[], by rfl⟩, by rfl⟩, ⟨⟨rfl, ⟨[], by rfl⟩, by rfl⟩, ⟨⟨rfl, ⟨[], by rfl⟩, by rfl⟩, ⟨⟨rfl, ⟨[], by rfl⟩, by rfl⟩, ⟨⟨rfl, ⟨[], by rfl⟩, by rfl⟩, ⟨⟨rfl, ⟨[], by rfl⟩, by rfl⟩, ⟨⟨rfl, ⟨[], by rfl⟩, by rfl⟩, ⟨⟨rfl, ⟨[], by rfl⟩, by rfl⟩, ⟨⟨rfl, ⟨[], by rfl⟩, by rfl⟩, ⟨⟨rfl, ⟨[], by rfl⟩, by rfl⟩, ⟨⟨rfl, ⟨[], by rfl⟩, by rfl⟩, ⟨⟨rfl, ⟨[], by rfl⟩, by rfl⟩, ⟨⟨rfl, ⟨[], by rfl⟩, by rfl⟩, ⟨⟨rfl, ⟨[], by rfl⟩, by rfl⟩, ⟨⟨rfl, ⟨[], by rfl⟩, by rfl⟩, ⟨⟨rfl, ⟨[], by rfl⟩, by rfl⟩, ⟨⟨rfl, ⟨[], by rfl⟩, by rfl⟩, ⟨⟨rfl, ⟨[], by rfl⟩, by rfl⟩, ⟨(show Zaa ([(⟨(1 : Int), (0 : Int)⟩ : R_ii)] : List R_ii) = Zaa ([(⟨(1 : Int), (0 : Int)⟩ : R_ii)] : List R_ii) from rfl), ⟨⟨rfl, ⟨[], by rfl⟩, by rfl⟩, ⟨⟨rfl, ⟨[], by rfl⟩, by rfl⟩, trivial⟩⟩⟩⟩⟩⟩⟩⟩⟩⟩⟩⟩⟩⟩⟩⟩⟩⟩⟩⟩⟩⟩⟩⟩⟩⟩⟩⟩⟩

theorem Zsv  (N : Nat) : (Zk  N).Ok Tryz.prog ZT (.h1m21 : Ze) (Z4  N (.h1m21 : Ze)) := by
 show (Zk  N).Ok Tryz.prog ZT (.h1m21 : Ze) (Zh7  N)
 unfold Zh7
 exact Mach.ok_next (M := Zk  N) (cd := 1000000) (cm := 0) (y := (.h1m22 : Ze)) (fu := 4000) (orc := (Zl [] [] [] [] [])) (live := [0, 50, 2, 3, 4, 5, 6, 7, 8, 9, 10, 11, 12, 13, 14, 15, 17, 18, 19, 20, 21, 22, 23, 24, 25, 26, 27, 28]) (tv := fun _ => [some (vp 0 0), some (vi 22)]) (bl := [some (.cells [vs 50 0 22 22, vs 2 0 1 1, vp 3 0, vs 4 0 1 1] 92), some (tcah), some (Zma), some (tcf), some (Zmc), some (Za5), some (ZlZ), some (Zmb), some (ZiG), some (tcr), some (.cells [vp 3 0, vq, vs 15 0 31 31, Value.int .u32 (0 : Int), Value.int .i32 (0 : Int), Value.int .u32 (0 : Int), vn, vi 2, vi 1048577, vi 1, vi 5, vi 2, vq, vi 1, vq, vi 1, vq, vi 1, vq, vi 2, vi 1048594, vi 1, vq, vi 31, vn, vq, vq, vn, vp 17 0, vp 18 0, vq, vf, vn] 170), some (tcc), some (tcj), some (ZoJ), some (tcu), some (tca), some (.cells [vf, vT, vq, vi 3, vi 4, vi 17, vs 19 0 1 1, vs 20 0 1 1, vn, vq, vq, vq, vq, vq, vq, vq, vq, vq, vq, Value.nilFunc, Value.nilFunc, Value.nilFunc, vq, vq, vq, vq, vf, vq, vq, vq, vn, vi 1, Value.func (.func 222) #[vp 17 0] #[], vq, vq, vi 1, vs 21 0 1 1, vq, vq, vq, vp 3 0, vq, Value.nilFunc, vq, vT, vq, vp 22 0, vp 23 0, vp 24 0, vn, vi 2, vi 1048594, vq] 221), some (ZlY), some (Zcw), some (Za5), some (.cells [vi 2] 3), some (tcbz), some (.cells [vi 64, vs 27 0 3 3] 250), some (.cells [vT, vs 28 0 0 1] 254), some (Za6), some (.ro (Zaa ([(⟨(1 : Int), (0 : Int)⟩ : R_ii)] : List R_ii)) true), some (tcq), some (Za6)]) (ob := []) rfl (show 1 ∈ ZZ (ZW 1) from by decide +kernel) (fun gv => by kernel_rfl) Zf rfl (by decide) (by rfl) (fun _ => ⟨rr, ⟨rr, trivial⟩⟩) ⟨⟨rfl, ⟨[], by rfl⟩, by rfl⟩, ⟨⟨rfl, ⟨[], by rfl⟩, by rfl⟩, ⟨⟨rfl, ⟨[], by rfl⟩, by rfl⟩, ⟨⟨rfl, ⟨[], by rfl⟩, by rfl⟩, ⟨⟨rfl, ⟨[], by rfl⟩, by rfl⟩, ⟨⟨rfl, ⟨[], by rfl⟩, by rfl⟩, ⟨⟨rfl, ⟨[], by rfl⟩, by rfl⟩, ⟨⟨rfl, ⟨[], by rfl⟩, by rfl⟩, ⟨⟨rfl, ⟨[], by rfl⟩, by rfl⟩, ⟨⟨rfl, ⟨[], by rfl⟩, by rfl⟩, ⟨⟨rfl, ⟨[], by rfl⟩, by rfl⟩, ⟨⟨rfl, ⟨[], by rfl⟩, by rfl⟩, ⟨⟨rfl, ⟨[], by rfl⟩, by rfl⟩, ⟨⟨rfl, ⟨[], by rfl⟩, by rfl⟩, ⟨⟨rfl, ⟨[], by rfl⟩, by rfl⟩, ⟨⟨rfl, ⟨[], by rfl⟩, by rfl⟩, ⟨⟨rfl, ⟨[], by rfl⟩, by rfl⟩, ⟨⟨rfl, ⟨[], by rfl⟩, by rfl⟩, ⟨⟨rfl, ⟨[], by rfl⟩, by rfl⟩, ⟨⟨rfl, ⟨[], by rfl⟩, by rfl⟩, ⟨⟨rfl, ⟨[], by rfl⟩, by rfl⟩, ⟨⟨rfl, ⟨[], by rfl⟩, by rfl⟩, ⟨⟨rfl, ⟨[], by rfl⟩, by rfl⟩, ⟨⟨rfl, ⟨[], by rfl⟩, by rfl⟩, ⟨⟨rfl, ⟨[], by rfl⟩, by rfl⟩, ⟨(show Zaa ([(⟨(1 : Int), (0 : Int)⟩ : R_ii)] : List R_ii) = Zaa ([(⟨(1 : Int), (0 : Int)⟩ : R_ii)] : List R_ii) from rfl), ⟨⟨rfl, ⟨[], by rfl⟩, by rfl⟩, ⟨⟨rfl, ⟨[], by rfl⟩, by rfl⟩, trivial⟩⟩⟩⟩⟩⟩⟩⟩⟩⟩⟩⟩⟩⟩⟩⟩⟩⟩⟩⟩⟩⟩⟩⟩⟩⟩⟩⟩

theorem Zsw  (N : Nat) : (Zk  N).Ok Tryz.prog ZT (.h1m22 : Ze) (Z4  N (.h1m22 : Ze)) := by
 show (Zk  N).Ok Tryz.prog ZT (.h1m22 : Ze) (Zh8  N)
 unfold Zh8
 exact Mach.ok_next (M := Zk  N) (cd := 1000000) (cm := 0) (y := (.h1m23 : Ze)) (fu := 4000) (orc := (Zl [] [] [] [] [])) (live := [0, 40, 2, 3, 4, 5, 6, 7, 8, 9, 10, 11, 12, 13, 14, 15, 16, 17, 18, 19, 20, 21, 22, 23, 24, 25, 26, 27]) (tv := fun _ => [some (vp 0 0), some (vi 23)]) (bl := [some (.cells [vs 40 0 23 23, vs 2 0 1 1, vp 3 0, vs 4 0 1 1] 92), some (tcad), some (Zma), some (tcf), some (Zmc), some (Za5), some (ZlZ), some (Zmb), some (ZiG), some (tcr), some (tcbl), some (tcc), some (tcj), some (ZoJ), some (tcu), some (tca), some (.cells [vf, vT, vq, vi 3, vi 4, vi 17, vs 18 0 1 1, vs 19 0 1 1, vn, vq, vq, vq, vq, vq, vq, vq, vq, vq, vq, Value.nilFunc, Value.nilFunc, Value.nilFunc, vq, vq, vq, vq, vf, vq, vq, vq, vn, vi 1, Value.func (.func 222) #[vp 16 0] #[], vq, vq, vi 1, vs 20 0 1 1, vq, vq, vq, vp 3 0, vq, Value.nilFunc, vq, vT, vq, vp 21 0, vp 22 0, vp 23 0, vn, vi 2, vi 1048594, vq] 221), some (ZlY), some (Zcw), some (Za5), some (.cells [vi 2] 3), some (Zqs), some (Zqt), some (Zsi), some (Za6), some (.ro (Zaa ([(⟨(1 : Int), (0 : Int)⟩ : R_ii)] : List R_ii)) true), some (tcq), some (Za6)]) (ob := []) rfl (show 1 ∈ ZZ (ZW 1) from by decide +kernel) (fun gv => by kernel_rfl) Zf rfl (by decide) (by rfl) (fun _ => ⟨rr, ⟨rr, trivial⟩⟩) ⟨⟨rfl, ⟨[], by rfl⟩, by rfl⟩, ⟨⟨rfl, ⟨[], by rfl⟩, by rfl⟩, ⟨⟨rfl, ⟨[], by rfl⟩, by rfl⟩, ⟨⟨rfl, ⟨[], by rfl⟩, by rfl⟩, ⟨⟨rfl, ⟨[], by rfl⟩, by rfl⟩, ⟨⟨rfl, ⟨[], by rfl⟩, by rfl⟩, ⟨⟨rfl, ⟨[], by rfl⟩, by rfl⟩, ⟨⟨rfl, ⟨[], by rfl⟩, by rfl⟩, ⟨⟨rfl, ⟨[], by rfl⟩, by rfl⟩, ⟨⟨rfl, ⟨[], by rfl⟩, by rfl⟩, ⟨⟨rfl, ⟨[], by rfl⟩, by rfl⟩, ⟨⟨rfl, ⟨[], by rfl⟩, by rfl⟩, ⟨⟨rfl, ⟨[], by rfl⟩, by rfl⟩, ⟨⟨rfl, ⟨[], by rfl⟩, by rfl⟩, ⟨⟨rfl, ⟨[], by rfl⟩, by rfl⟩, ⟨⟨rfl, ⟨[], by rfl⟩, by rfl⟩, ⟨⟨rfl, ⟨[], by rfl⟩, by rfl⟩, ⟨⟨rfl, ⟨[], by rfl⟩, by rfl⟩, ⟨⟨rfl, ⟨[], by rfl⟩, by rfl⟩, ⟨⟨rfl, ⟨[], by rfl⟩, by rfl⟩, ⟨⟨rfl, ⟨[], by rfl⟩, by rfl⟩, ⟨⟨rfl, ⟨[], by rfl⟩, by rfl⟩, ⟨⟨rfl, ⟨[], by rfl⟩, by rfl⟩, ⟨⟨rfl, ⟨[], by rfl⟩, by rfl⟩, ⟨⟨rfl, ⟨[], by rfl⟩, by rfl⟩, ⟨(show Zaa ([(⟨(1 : Int), (0 : Int)⟩ : R_ii)] : List R_ii) = Zaa ([(⟨(1 : Int), (0 : Int)⟩ : R_ii)] : List R_ii) from rfl), ⟨⟨rfl, ⟨[], by rfl⟩, by rfl⟩, ⟨⟨rfl, ⟨[], by rfl⟩, by rfl⟩, trivial⟩⟩⟩⟩⟩⟩⟩⟩⟩⟩⟩⟩⟩⟩⟩⟩⟩⟩⟩⟩⟩⟩⟩⟩⟩⟩⟩⟩

theorem Zsx  (N : Nat) : (Zk  N).Ok Tryz.prog ZT (.h1m23 : Ze) (Z4  N (.h1m23 : Ze)) := by
 show (Zk  N).Ok Tryz.prog ZT (.h1m23 : Ze) (Zh9  N)
 unfold Zh9
 exact Mach.ok_fin (M := Zk  N) (cd := 1000000) (cm := 0) (r := (.r0 : ZA)) (fu := 4000) (orc := (Zl [] [] [] [] [])) (live := []) (u := vT) (bl := []) (ob := []) (fun gv => by kernel_rfl) Zf rfl (by decide) (by rfl) rr trivial

theorem Zv2  (N : Nat) : (Zk  N).Enter Tryz.prog ZT #[] (Zlc  N) := by
 unfold Zlc
 exact Mach.en_head (bK := ZL 1) (M := Zk  N) (cd := 1000000) (cm := 0) (y := (.h1m0 : Ze)) (fu := 4000) (orc := (Zl [] [] [] [] [])) (live := [344, 343, 658, 316, 339, 340, 341, 656, 318, 319, 337, 338, 645, 350, 351, 346, 348, 349]) (tv := [some (vp 344 0), some (vq)]) (bl := [some (.cells [vn, vn, vp 343 0, vs 658 0 1 1] 92), some (.cells [vi 1, vq, vf, vf, vq, vf, vf, vq, vf, vf, vq, vf, vf, vq, vf, vf, vq, vf, vf, vq, vf, vf, vq, vf, vf, vq, vf, vf, vq, vf, vf, vq, vf, vf, vq, vf, vf, vq, vf, vf, vq, vf, vf, vq, vf, vf, vq, vf, vf, vq, vf, vf, vq, vf, vf, vq, vf, vf, vq, vf, vf, vq, vf, vf, vq, vf, vf, vq, vf, vf, vq, vf, vf, vq, vf, vf, vq, vf, vf, vq, vf, vf, vq, vf, vf, vq, vf, vf, vq, vf, vf, vq, vf, vf, vq, vf, vf, vq, vf, vf, vq, vf, vf, vq, vf, vf, vq, vf, vf, vq, vf, vf, vq, vf, vf, vq, vf, vf, vq, vf, vf, vq, vf, vf, vq, vf, vf, vq, vf, vf, vq, vf, vf, vq, vf, vf, vq, vf, vf, vq, vf, vf, vq, vf, vf, vq, vf, vf, vq, vf, vf, vq, vf, vf, vq, vf, vf, vq, vf, vf, vq, vf, vf, vq, vf, vf, vq, vf, vf, vq, vf, vf, vq, vf, vf, vq, vf, vf, vq, vf, vf, vq, vf, vf, vq, vf, vf, vq, vf, vf, vq, vf, vf, vi 400, vi 16, vi 64, vi 64, vi 1073741824, vi 1, vq, vp 316 0, vp 339 0, vp 340 0, vp 341 0] 144), some (.cells [vp 656 0] 93), some (.cells [vi 400, vs 318 0 17 17, vs 319 0 17 17, vn, vn, vn, vn, vn, vn, vn, vn, vn, vn, vn, vn, vn, vn, vn, vn, vn] 184), some (.cells [vs 337 0 16 16, vs 338 0 16 16] 190), some (Zv1), some (Zvy), some (.cells [vp 343 0, vq, vs 645 0 31 31, Value.int .u32 (0 : Int), Value.int .i32 (0 : Int), Value.int .u32 (0 : Int), vn, vi 1, vq, vi 1, vq, vi 1, vq, vi 1, vq, vi 1, vq, vi 1, vq, vi 1, vq, vi 1, vq, vq, vn, vq, vq, vn, vp 350 0, vp 351 0, vq, vf, vn] 170), some (tce), some (tck), some (tci), some (tci), some (tca), some (.cells [vf, vf, vq, vq, vq, vq, vn, vn, vn, vq, vq, vq, vq, vq, vq, vq, vq, vq, vq, Value.nilFunc, Value.nilFunc, Value.nilFunc, vq, vq, vq, vq, vf, vq, vq, vq, vn, vq, Value.nilFunc, vq, vq, vq, vn, vq, vq, vq, vp 343 0, vq, Value.nilFunc, vq, vf, vq, vp 346 0, vp 348 0, vp 349 0, vn, vq, vq, vq] 221), some (.cells [vq, vq, vq, vq, vq, vq, vq, vq, vq, vq, vq, vq, vq, vq, vq, vq, vn, vq, vf, vf, vq, vq, vq, vq, vp 343 0, vq, Value.nilFunc] 230), some (tcx), some (Zf6), some (ZcX)]) (ob := []) rfl rfl (show ZZ (ZL 1).2 = [] from rfl) (by kernel_rfl) Zf rfl (by decide) (by rfl) ⟨rr, ⟨rr, trivial⟩⟩ ⟨⟨rfl, ⟨[], by rfl⟩, by rfl⟩, ⟨⟨rfl, ⟨[], by rfl⟩, by rfl⟩, ⟨⟨rfl, ⟨[], by rfl⟩, by rfl⟩, ⟨⟨rfl, ⟨[], by rfl⟩, by rfl⟩, ⟨⟨rfl, ⟨[], by rfl⟩, by rfl⟩, ⟨⟨rfl, ⟨[], by rfl⟩, by rfl⟩, ⟨⟨rfl, ⟨[], by rfl⟩, by rfl⟩, ⟨⟨rfl, ⟨[], by rfl⟩, by rfl⟩, ⟨⟨rfl, ⟨[], by rfl⟩, by rfl⟩, ⟨⟨rfl, ⟨[], by rfl⟩, by rfl⟩, ⟨⟨rfl, ⟨[], by rfl⟩, by rfl⟩, ⟨⟨rfl, ⟨[], by rfl⟩, by rfl⟩, ⟨⟨rfl, ⟨[], by rfl⟩, by rfl⟩, ⟨⟨rfl, ⟨[], by rfl⟩, by rfl⟩, ⟨⟨rfl, ⟨[], by rfl⟩, by rfl⟩, ⟨⟨rfl, ⟨[], by rfl⟩, by rfl⟩, ⟨⟨rfl, ⟨[], by rfl⟩, by rfl⟩, ⟨⟨rfl, ⟨[], by rfl⟩, by rfl⟩, trivial⟩⟩⟩⟩⟩⟩⟩⟩⟩⟩⟩⟩⟩⟩⟩⟩⟩⟩

theorem ZtR  (N : Nat) (r : ZA) (h : Zx0  N = some r) : LSpec Tryz.prog 14 #[] [] (Zsj  r) (ZqX  r) :=
 Mach.spec Z0q (Zk  N) Tryz.func14 (by kernel_rfl) (by kernel_rfl) (fun x => by cases x <;> exact Zg _ rfl) (fun r => by cases r <;> exact Zg _ rfl) (fun x => by
  cases x with
  | h1m0 => exact fun _ => (show ¬ (1 ∈ ZZ (ZL 1).2) from by decide +kernel)
  | h1m1 => exact fun _ => (show ¬ (1 ∈ ZZ (ZL 1).2) from by decide +kernel)
  | h1m2 => exact fun _ => (show ¬ (1 ∈ ZZ (ZL 1).2) from by decide +kernel)
  | h1m3 => exact fun _ => (show ¬ (1 ∈ ZZ (ZL 1).2) from by decide +kernel)
  | h1m4 => exact fun _ => (show ¬ (1 ∈ ZZ (ZL 1).2) from by decide +kernel)
  | h1m5 => exact fun _ => (show ¬ (1 ∈ ZZ (ZL 1).2) from by decide +kernel)
  | h1m6 => exact fun _ => (show ¬ (1 ∈ ZZ (ZL 1).2) from by decide +kernel)
  | h1m7 => exact fun _ => (show ¬ (1 ∈ ZZ (ZL 1).2) from by decide +kernel)
  | h1m8 => exact fun _ => (show ¬ (1 ∈ ZZ (ZL 1).2) from by decide +kernel)
  | h1m9 => exact fun _ => (show ¬ (1 ∈ ZZ (ZL 1).2) from by decide +kernel)
  | h1m10 => exact fun _ => (show ¬ (1 ∈ ZZ (ZL 1).2) from by decide +kernel)
  | h1m11 => exact fun _ => (show ¬ (1 ∈ ZZ (ZL 1).2) from by decide +kernel)
  | h1m12 => exact fun _ => (show ¬ (1 ∈ ZZ (ZL 1).2) from by decide +kernel)
  | h1m13 => exact fun _ => (show ¬ (1 ∈ ZZ (ZL 1).2) from by decide +kernel)
  | h1m14 => exact fun _ => (show ¬ (1 ∈ ZZ (ZL 1).2) from by decide +kernel)
  | h1m15 => exact fun _ => (show ¬ (1 ∈ ZZ (ZL 1).2) from by decide +kernel)
  | h1m16 => exact fun _ => (show ¬ (1 ∈ ZZ (ZL 1).2) from by decide +kernel)
  | h1m17 => exact fun _ => (show ¬ (1 ∈ ZZ (ZL 1).2) from by decide +kernel)
  | h1m18 => exact fun _ => (show ¬ (1 ∈ ZZ (ZL 1).2) from by decide +kernel)
  | h1m19 => exact fun _ => (show ¬ (1 ∈ ZZ (ZL 1).2) from by decide +kernel)
  | h1m20 => exact fun _ => (show ¬ (1 ∈ ZZ (ZL 1).2) from by decide +kernel)
  | h1m21 => exact fun _ => (show ¬ (1 ∈ ZZ (ZL 1).2) from by decide +kernel)
  | h1m22 => exact fun _ => (show ¬ (1 ∈ ZZ (ZL 1).2) from by decide +kernel)
  | h1m23 => exact fun _ => (show ¬ (1 ∈ ZZ (ZL 1).2) from by decide +kernel)
  ) (fun x => (show (Zk  N).Ok Tryz.prog ZT x (Z4  N x) from by
  cases x with
  | h1m0 => exact ZsO  N
  | h1m1 => exact ZsP  N
  | h1m2 => exact ZsQ  N
  | h1m3 => exact ZsR  N
  | h1m4 => exact ZsS  N
  | h1m5 => exact ZsT  N
  | h1m6 => exact ZsU  N
  | h1m7 => exact ZsV  N
  | h1m8 => exact ZsW  N
  | h1m9 => exact ZsX  N
  | h1m10 => exact Zsk  N
  | h1m11 => exact Zsl  N
  | h1m12 => exact Zsm  N
  | h1m13 => exact Zsn  N
  | h1m14 => exact Zso  N
  | h1m15 => exact Zsp  N
  | h1m16 => exact Zsq  N
  | h1m17 => exact Zsr  N
  | h1m18 => exact Zss  N
  | h1m19 => exact Zst  N
  | h1m20 => exact Zsu  N
  | h1m21 => exact Zsv  N
  | h1m22 => exact Zsw  N
  | h1m23 => exact Zsx  N
  )) (Zv2  N) (n := N) h

end Ev
end Go.Proofs.YtgpekgedjmhmeaaGreat
