/- Part 3. -/
import Derived.Test.YtaajdoclloamlaaGreatZab
/- Ranges over functions: the iterator, the statement. -/
namespace Go.Proofs.YtaajdoclloamlaaGreat
open Go.RowKit
namespace Ev
section
variable {P : Program} {ext : FuncId → Option Ext}
section
variable {ι0 : Ren} {h0 : AH} {w0 : World} {n0 : Nat} {ac : Act} {l0 K : Nat} {R : Loop} {cx : Cx}
def Ztd (P : Program) (ι0 : Ren) (h0 : AH) (w0 : World) (n0 : Nat) (cx : Cx) (ac : Act) (l0 K : Nat) (R : Loop) (nt : Nat) (ι : Ren) (s : St) (e : Ex) (T' : Tr Value) (s' : St) (ys' : List Tmp) (pe' : Option Ex) (ex : Exit) (a' : Act) (W' : World) : Prop :=
 ex = e.out ∧ ∃ ι', TR ι' nt [] T' a' ∧ YS l0 ys' a' ∧ IS P ι0 h0 w0 n0 cx.nt cx.T ac l0 K (Rp R pe') ι' s' W' ∧ Dom ι ι' s.n s'.n
theorem ZxS (F : Fit P ext) (hR : R.tmps = ac.tmps ∧ R.params = cx.ps ∧ R.assign = cx.asg ∧ R.body = cx.body) {nt : Nat} : ∀ fu : Nat,
  (∀ c T s ys pe e T' s' ys' pe', evI P ext nt cx fu c T s ys pe = some (e, T', s', ys', pe') → (∀ p ∈ s'.ob, p.1 = p.2) → ∀ ι a W, TR ι nt [] T a → YS l0 ys a → IS P ι0 h0 w0 n0 cx.nt cx.T ac l0 K (Rp R pe) ι s W → Fresh ι s.n s'.n →
   c.wpIn (Fr none) 0 P (Ztd P ι0 h0 w0 n0 cx ac l0 K R nt ι s e T' s' ys' pe') a W) ∧
  (∀ c T s ys pe e T' s' ys' pe', evI P ext nt cx fu (.loop c) T s ys pe = some (e, T', s', ys', pe') → (∀ p ∈ s'.ob, p.1 = p.2) → ∀ ι a W, TR ι nt [] T a → YS l0 ys a → IS P ι0 h0 w0 n0 cx.nt cx.T ac l0 K (Rp R pe) ι s W → Fresh ι s.n s'.n →
   Code.roundsIn (Fr none) 0 P c (Ztd P ι0 h0 w0 n0 cx ac l0 K R nt ι s e T' s' ys' pe') fu a W) := by
 intro fu
 induction fu with
 | zero => exact ⟨fun _ _ _ _ _ _ _ _ _ _ h => by simp [evI] at h, fun _ _ _ _ _ _ _ _ _ _ h => by simp [evI] at h⟩
 | succ fu ih =>
  obtain ⟨ihC, ihL⟩ := ih
  have two : ∀ {ι ι1 : Ren} {s s1 s' : St} {e : Ex} {T' : Tr Value} {ys' : List Tmp} {pe' : Option Ex}, Dom ι ι1 s.n s1.n → s.n ≤ s1.n → s1.n ≤ s'.n → ∀ ex a W, Ztd P ι0 h0 w0 n0 cx ac l0 K R nt ι1 s1 e T' s' ys' pe' ex a W → Ztd P ι0 h0 w0 n0 cx ac l0 K R nt ι s e T' s' ys' pe' ex a W :=
   fun hd h1 h2 ex a W ⟨hx, ι', k1, k2, k3, k4⟩ => ⟨hx, ι', k1, k2, k3, hd.trans k4 h1 h2⟩
  have loops : ∀ c T s ys pe e T' s' ys' pe', evI P ext nt cx (fu + 1) (.loop c) T s ys pe = some (e, T', s', ys', pe') → (∀ p ∈ s'.ob, p.1 = p.2) → ∀ ι a W, TR ι nt [] T a → YS l0 ys a → IS P ι0 h0 w0 n0 cx.nt cx.T ac l0 K (Rp R pe) ι s W → Fresh ι s.n s'.n →
    Code.roundsIn (Fr none) 0 P c (Ztd P ι0 h0 w0 n0 cx ac l0 K R nt ι s e T' s' ys' pe') (fu + 1) a W := by
   intro x T s ys pe e T' s' ys' pe' h ho ι a W hT hY I hf
   simp only [evI] at h
   rw [roundsIn_succ]
   split at h
   ·rename_i T1 s1 ys1 pe1 h1
    have u1 := Zf8 F fu _ _ _ _ _ _ _ _ _ _ h1
    have u2 := Zf8 F fu _ _ _ _ _ _ _ _ _ _ h
    refine wpIn_mono (ihC x T s ys pe .normal T1 s1 ys1 pe1 h1 (Zbm u2.ob ho) ι a W hT hY I (hf.mono (Nat.le_refl _) u2.n)) ?_
    rintro ex a1 w1 ⟨rfl, ι1, g1, g2, g3, g4⟩
    exact Zkn (two g4 u1.n u2.n) fu a1 w1 (ihL x T1 s1 ys1 pe1 e T' s' ys' pe' h ho ι1 a1 w1 g1 g2 g3 (hf.after g4 u1.n))
   ·rename_i i r h1
    injection h with h; simp only [Prod.mk.injEq] at h; obtain ⟨rfl, rfl⟩ := h
    refine wpIn_mono (ihC x T s ys pe _ _ _ _ _ h1 ho ι a W hT hY I hf) ?_
    rintro ex a1 w1 ⟨rfl, hq⟩
    exact ⟨rfl, hq⟩
   ·rename_i r h1
    injection h with h; simp only [Prod.mk.injEq] at h; obtain ⟨rfl, rfl⟩ := h
    refine wpIn_mono (ihC x T s ys pe _ _ _ _ _ h1 ho ι a W hT hY I hf) ?_
    rintro ex a1 w1 ⟨rfl, hq⟩
    exact ⟨rfl, hq⟩
   ·cases h
  refine ⟨fun c T s ys pe e T' s' ys' pe' h ho ι a W hT hY I hf => ?_, loops⟩
  have h0' := h
  cases c <;> simp only [evI] at h
  case skip => injection h with h; simp only [Prod.mk.injEq] at h; obtain ⟨rfl, rfl, rfl, rfl, rfl⟩ := h; exact wpIn_skip ⟨rfl, ι, hT, hY, I, Dom.refl⟩
  case ret => injection h with h; simp only [Prod.mk.injEq] at h; obtain ⟨rfl, rfl, rfl, rfl, rfl⟩ := h; exact wpIn_ret ⟨rfl, ι, hT, hY, I, Dom.refl⟩
  case exit id => injection h with h; simp only [Prod.mk.injEq] at h; obtain ⟨rfl, rfl, rfl, rfl, rfl⟩ := h; exact wpIn_exit ⟨rfl, ι, hT, hY, I, Dom.refl⟩
  case seq x y =>
   split at h
   ·rename_i T1 s1 ys1 pe1 h1
    have u1 := Zf8 F fu _ _ _ _ _ _ _ _ _ _ h1
    have u2 := Zf8 F fu _ _ _ _ _ _ _ _ _ _ h
    refine wpIn_seq (wpIn_mono (ihC x T s ys pe .normal T1 s1 ys1 pe1 h1 (Zbm u2.ob ho) ι a W hT hY I (hf.mono (Nat.le_refl _) u2.n)) ?_)
    rintro ex a1 w1 ⟨rfl, ι1, g1, g2, g3, g4⟩
    exact wpIn_mono (ihC y T1 s1 ys1 pe1 e T' s' ys' pe' h ho ι1 a1 w1 g1 g2 g3 (hf.after g4 u1.n)) (two g4 u1.n u2.n)
   ·rename_i i r h1
    injection h with h; simp only [Prod.mk.injEq] at h; obtain ⟨rfl, rfl⟩ := h
    refine wpIn_seq (wpIn_mono (ihC x T s ys pe _ _ _ _ _ h1 ho ι a W hT hY I hf) ?_)
    rintro ex a1 w1 ⟨rfl, hq⟩
    exact ⟨rfl, hq⟩
   ·rename_i r h1
    injection h with h; simp only [Prod.mk.injEq] at h; obtain ⟨rfl, rfl⟩ := h
    refine wpIn_seq (wpIn_mono (ihC x T s ys pe _ _ _ _ _ h1 ho ι a W hT hY I hf) ?_)
    rintro ex a1 w1 ⟨rfl, hq⟩
    exact ⟨rfl, hq⟩
   ·cases h
  case cond x y z =>
   split at h
   ·rename_i t ht
    have hx : a.eval x = .bool t := ZgJ ((ht ▸ hT.opnd x : VR ι (.bool t) (ZcJ a x)).bool_inv)
    split at h
    ·exact wpIn_cond_true hx (ihC y T s ys pe e T' s' ys' pe' h ho ι a W hT hY I hf)
    ·exact wpIn_cond_false hx (ihC z T s ys pe e T' s' ys' pe' h ho ι a W hT hY I hf)
   ·cases h
  case block id x =>
   split at h
   ·rename_i i r h1
    cases hb : Nat.beq i id with
    | true =>
     rw [hb] at h
     injection h with h; simp only [Prod.mk.injEq] at h; obtain ⟨rfl, rfl⟩ := h
     refine wpIn_block (wpIn_mono (ihC x T s ys pe _ _ _ _ _ h1 ho ι a W hT hY I hf) ?_)
     rintro ex a1 w1 ⟨rfl, hq⟩
     show if i = id then _ else _
     rw [if_pos (Nat.eq_of_beq_eq_true hb)]
     exact ⟨rfl, hq⟩
    | false =>
     rw [hb] at h
     injection h with h; simp only [Prod.mk.injEq] at h; obtain ⟨rfl, rfl⟩ := h
     refine wpIn_block (wpIn_mono (ihC x T s ys pe _ _ _ _ _ h1 ho ι a W hT hY I hf) ?_)
     rintro ex a1 w1 ⟨rfl, hq⟩
     show if i = id then _ else _
     rw [if_neg (fun e => by rw [Zkk e] at hb; cases hb)]
     exact ⟨rfl, hq⟩
   ·rename_i r h1
    injection h with h; simp only [Prod.mk.injEq] at h; obtain ⟨rfl, rfl⟩ := h
    refine wpIn_block (wpIn_mono (ihC x T s ys pe _ _ _ _ _ h1 ho ι a W hT hY I hf) ?_)
    rintro ex a1 w1 ⟨rfl, hq⟩
    exact ⟨rfl, hq⟩
   ·rename_i r h1
    injection h with h; simp only [Prod.mk.injEq] at h; obtain ⟨rfl, rfl⟩ := h
    refine wpIn_block (wpIn_mono (ihC x T s ys pe _ _ _ _ _ h1 ho ι a W hT hY I hf) ?_)
    rintro ex a1 w1 ⟨rfl, hq⟩
    exact ⟨rfl, hq⟩
   ·cases h
  case loop x => exact wpIn_loop_rounds (fu + 1) (loops x T s ys pe e T' s' ys' pe' h0' ho ι a W hT hY I hf)
  case region id ops draw =>
   split at h
   ·cases h
   ·split at h
    ·rename_i T1 s1 ys1 pe1 h1
     injection h with h; simp only [Prod.mk.injEq] at h; obtain ⟨rfl, rfl, rfl, rfl, rfl⟩ := h
     exact wpIn_region_list (ZkI F hR ops.toList T s ys pe T1 s1 ys1 pe1 h1 ho ι a W _ hT hY I hf fun ι' a' W' k1 k2 k3 k4 => ⟨rfl, ι', k1, k2, k3, k4⟩)
    ·cases h
  all_goals cases h
end
def Mk (b : Nat) (m : Bool) (D : List Deferred) (ι : Ren) (w : World) : Prop := match m with
 | false => D = []
 | true => ∃ K, b ≤ K ∧ D = [{ target := .collected K, args := #[] }] ∧ w.heap[K]? = some (.deferred (some [])) ∧ ∀ k b, ι k = some b → b.1 ≠ K
theorem Mk.step {b : Nat} {m : Bool} {D : List Deferred} {ι ι1 : Ren} {h h1 : AH} {w w1 : World} (hm : Mk b m D ι w) (g : Step P ι h w ι1 h1 w1) : Mk b m D ι1 w1 := by
 cases m with
 | false => exact hm
 | true =>
  obtain ⟨K, hb, e, hk, hn⟩ := hm
  obtain ⟨a1, a2⟩ := Zsg g (Array.getElem?_eq_some_iff.1 hk).1 hn
  exact ⟨K, hb, e, a2.trans hk, a1⟩
def ZoA (b : Nat) (P : Program) (ι : Ren) (s : St) (w : World) (nt : Nat) (e : Ex) (T' : Tr Value) (s' : St) (m' : Bool) (ex : Exit) (a' : Act) (w' : World) : Prop :=
 ex = e.out ∧ ∃ ι' D', Step P ι s.h.get w ι' s'.h.get w' ∧ Dom ι ι' s.n s'.n ∧ TR ι' nt D' T' a' ∧ Mk b m' D' ι' w'
theorem up_rf (F : Fit P ext) {nt fu : Nat} {g : Operand} {ps : Array Tmp} {asg body : Code} {T : Tr Value} {s s' : St} {e : Ex} (h : ZuF P ext nt fu g ps asg body T s = some (e, s')) : Up s s' := by
 unfold ZuF at h
 split at h
 ·split at h
  ·split at h
   ·obtain ⟨_, h⟩ := Zo h
    split at h
    ·cases h
    ·rename_i h1; injection h with h; injection h with q1 q2; subst q2; exact Zf8 F _ _ _ _ _ _ _ _ _ _ _ h1
    ·rename_i h1; obtain ⟨_, h⟩ := Zo3 h; injection h with h; injection h with q1 q2; subst q2; exact Zf8 F _ _ _ _ _ _ _ _ _ _ _ h1
    ·cases h
   ·cases h
  ·cases h
 ·cases h
theorem Zxr (F : Fit P ext) {nt fu : Nat} {g : Operand} {ps : Array Tmp} {asg body : Code} {T : Tr Value} {s s' : St} {e : Ex} (h : ZuF P ext nt fu g ps asg body T s = some (e, s')) (ho : ∀ p ∈ s'.ob, p.1 = p.2) {b : Nat} {ι : Ren} {a : Act} {w : World} (hbw : b ≤ w.heap.size)
  (hT : TR ι nt [] T a) (he : Emb P ι s.h.get w) (hf : Fresh ι s.n s'.n) : (Code.rangeFunc g ps asg body).wpIn (Fr none) 0 P (ZoA b P ι s w nt e T s' true) a w := by
 unfold ZuF at h
 split at h
 ·rename_i gf av bv hg
  split at h
  ·rename_i fn hfn
   split at h
   ·rename_i c hb
    obtain ⟨hgd, h⟩ := Zo h
    simp only [Bool.and_eq_true] at hgd
    obtain ⟨⟨hgd, hsz⟩, hres⟩ := hgd
    have hsz := Nat.le_of_ble_eq_true hsz
    have hres := Nat.eq_of_beq_eq_true hres
    have key : ∃ e0 T1 ys1 pe, evI P ext fn.ntmps ⟨nt, T, ps, asg, body⟩ fu c (ZgG 0 (av ++ #[Value.chan (some 0)] ++ bv).toList .nil) s [av.size] none = some (e0, T1, s', ys1, pe) ∧ (e0 = .normal ∨ e0 = .ret) ∧ e = (match pe with | none => .normal | some e => e) ∧ (∀ e1, pe = some e1 → isN e1 = false) := by
     split at h
     ·cases h
     ·rename_i e0 T1 s1 ys1 hne h1
      injection h with h; injection h with q1 q2; subst q1 q2
      refine ⟨e0, T1, ys1, none, h1, ?_, rfl, fun e1 he => by cases he⟩
      cases e0 with
      | normal => exact .inl rfl
      | ret => exact .inr rfl
      | exit i => exact (hne i rfl).elim
     ·rename_i e0 T1 s1 ys1 e1 hne h1
      obtain ⟨hn1, h⟩ := Zo3 h
      injection h with h; injection h with q1 q2; subst q1 q2
      refine ⟨e0, T1, ys1, some e1, h1, ?_, rfl, fun e2 he => by injection he with he; rw [← he]; exact hn1⟩
      cases e0 with
      | normal => exact .inl rfl
      | ret => exact .inr rfl
      | exit i => exact (hne i rfl).elim
     ·cases h
    obtain ⟨e0, T1, ys1, pe, h1, he0, hepe, hnn⟩ := key
    have hgv : ∃ av' bv', ZcJ a g = .func (.func gf) av' bv' ∧ VRs ι av av' ∧ VRs ι bv bv' := by
     have hv := hg ▸ hT.opnd g
     generalize ZcJ a g = x' at hv
     cases hv with
     | atom h =>
      simp [Ev.atom] at h
      obtain ⟨rfl, rfl⟩ := h
      exact ⟨_, _, rfl, ⟨rfl, fun i x y hx => by simp at hx⟩, ⟨rfl, fun i x y hx => by simp at hx⟩⟩
     | func hs ht h1 h2 => exact ⟨_, _, rfl, ⟨hs, h1⟩, ⟨ht, h2⟩⟩
    obtain ⟨av', bv', hgv, hav, hbv⟩ := hgv
    have hgv : a.eval g = .func (.func gf) av' bv' := by
     cases g with
     | const v => simp only [Zhm] at hgd; simpa [ZcJ, hgd, Act.eval] using hgv
     | _ => exact hgv
    refine wpIn_rangeFunc ?_
    intro fn0 _
    obtain ⟨R, hRd⟩ : ∃ R : Loop, R = { state := .ready, pending := none, fn := fn0, tmps := a.tmps, params := ps, assign := asg, body, defers := w.heap.size } := ⟨_, rfl⟩
    obtain ⟨W1, hW1⟩ : ∃ W1, (w.alloc (.deferred (some []))).alloc (.loop R) = W1 := ⟨_, rfl⟩
    have hL1 : W1.heap[w.heap.size + 1]? = some (.loop (Rp R none)) := by
     rw [show Rp R none = R by rw [hRd]; rfl]
     rw [← hW1]; have := World.alloc_heap_new (w.alloc (.deferred (some []))) (.loop R); rwa [World.size_alloc] at this
    have hK1 : W1.heap[w.heap.size]? = some (.deferred (some [])) := by
     rw [← hW1]; exact (Below.heap_alloc _ _ _ (by simp)).trans (World.alloc_heap_new w _)
    have hb1 : Below w.heap.size w W1 := by
     rw [← hW1]; exact ((Below.refl _ w).alloc (Nat.le_refl _) _).alloc (by simp) _
    have I1 : IS P ι s.h.get w s.n nt T a (w.heap.size + 1) w.heap.size (Rp R none) ι s W1 :=
     ⟨Step.below he hb1, Dom.refl, Nat.le_refl _, ⟨hT.1, rfl, hT.2.2⟩, hL1, hK1, by omega, by omega, fun k b hk => by have := he.lt k b hk; omega⟩
    have hargs : VRs ι (av ++ #[Value.chan (some 0)] ++ bv) (av' ++ #[Value.func (.yield (w.heap.size + 1)) #[] #[]] ++ bv') :=
     Zga (Zga hav ⟨rfl, fun i x y hx hy => by
      cases i with
      | zero => simp at hx hy; rw [← hx, ← hy]; exact .glob rfl
      | succ i => simp at hx⟩) hbv
    refine ⟨w.heap.size + 1, [{ target := .collected w.heap.size, args := #[] }], W1, { target := .fn (.func gf) bv', args := av' ++ #[.func (.yield (w.heap.size + 1)) #[] #[]] }, W1, gf,
     av' ++ #[.func (.yield (w.heap.size + 1)) #[] #[]] ++ bv', W1, ?_, ?_, fun _ _ => trivial, ?_, fun e => (by cases e), ?_⟩
    ·rw [← hW1, hRd]; exact run_enterLoop_outer _ _ _ _ _
    ·simp only [resolve, hgv]
     simp [go_sem, Deferred.ofValue]
    ·simp [invoke, Ze8 hfn (F.go gf fn hfn) hb]
    ·refine callsIn_of_wp_marks hfn hb trivial ?_
     refine wpIn_mono ((ZxS (R := R) (cx := ⟨nt, T, ps, asg, body⟩) (ac := a) F ⟨by rw [hRd], by rw [hRd], by rw [hRd], by rw [hRd]⟩ fu).1 c _ s _ none e0 T1 s' ys1 pe h1 ho ι _ W1 (ZkM hargs hsz) ?_ I1 hf) ?_
     ·intro t ht
      rw [List.mem_singleton] at ht
      subst ht
      have hs := hav.1
      rw [Array.getD_eq_getD_getElem?, Array.getElem?_append_left (by simp; omega), Array.getElem?_append_left (by simp; omega), Array.getElem?_append_right (by omega)]
      simp [hs]
     ·rintro ex a2 w2 ⟨rfl, ι2, g1, _, I2, g4⟩
      have hr := run_endLoop (P := P) I2.lo (by cases pe <;> simp [Rp])
      have I3 := I2.put { Rp R pe with state := .exhausted }
      have hr2 : ∃ v', (results fn a2.tmps).run P w2 = .ok v' w2 := by
       have hnil : fn.results.toList = [] := List.eq_nil_of_length_eq_zero hres
       obtain ⟨v', q, _⟩ := Zfx (fn := fn) (v := .tuple #[]) g1 I2.st.emb (by rw [hnil]; rfl)
       exact ⟨v', q⟩
      obtain ⟨v', hrun⟩ := hr2
      have fin : LeavesInM (Fr none) (0 - 1) P fn a2.tmps (rangePost (Fr none) 0 P (w.heap.size + 1) (ZoA b P ι s w nt e T s' true) { a with defers := [{ target := .collected w.heap.size, args := #[] }] ++ a.defers }) a2.defers .returning w2 := by
       rw [g1.2.1]
       refine ⟨v', hrun, _, _, hr, ?_⟩
       have post : ZoA b P ι s w nt e T s' true e.out { a with defers := [{ target := .collected w.heap.size, args := #[] }] ++ a.defers } (w2.putObj (w.heap.size + 1) (.loop { Rp R pe with state := .exhausted })) := by
        refine ⟨rfl, ι2, _, I3.st, I3.dm, ⟨I3.tr.1, rfl, I3.tr.2.2⟩, w.heap.size, hbw, ?_, I3.de, fun k b hk => (I3.nl k b hk).2⟩
        rw [hT.2.1]; rfl
       cases pe with
       | none => rw [hepe] at post ⊢; exact post
       | some e1 =>
        cases e1 with
        | normal => exact absurd (hnn _ rfl) (by simp [isN])
        | ret => rw [hepe] at post ⊢; exact wpIn_ret post
        | exit i => rw [hepe] at post ⊢; exact wpIn_exit post
      rcases he0 with rfl | rfl
      ·exact fin
      ·exact fin
   ·cases h
  ·cases h
 ·cases h
end
end Ev
end Go.Proofs.YtaajdoclloamlaaGreat
/- Functions with a range over a function do what the runner says of them. -/
namespace Go.Proofs.YtaajdoclloamlaaGreat
open Go.RowKit
namespace Ev
section
variable {P : Program} {ext : FuncId → Option Ext}
theorem Zji (F : Fit P ext) {nt : Nat} : ∀ (fu : Nat) (c : Code) (T : Tr Value) (s : St) (m : Bool) (e : Ex) (T' : Tr Value) (s' : St) (m' : Bool), evR P ext nt fu c T s m = some (e, T', s', m') → Up s s'
 | 0, _, _, _, _, _, _, _, _, h => by simp [evR] at h
 | fu + 1, c, T, s, m, e, T', s', m', h => by
  have upC := (Ze1 (P := P) (ext := ext) (fun f g hg => (F.hp f g hg).up) (fu + 1)).1
  cases c <;> simp only [evR] at h
  case skip => injection h with h; simp only [Prod.mk.injEq] at h; obtain ⟨rfl, rfl, rfl, rfl⟩ := h; exact Up.refl _
  case ret => injection h with h; simp only [Prod.mk.injEq] at h; obtain ⟨rfl, rfl, rfl, rfl⟩ := h; exact Up.refl _
  case exit id => injection h with h; simp only [Prod.mk.injEq] at h; obtain ⟨rfl, rfl, rfl, rfl⟩ := h; exact Up.refl _
  case seq x y =>
   split at h
   ·rename_i T1 s1 m1 h1; exact (Zji F fu _ _ _ _ _ _ _ _ h1).trans (Zji F fu _ _ _ _ _ _ _ _ h)
   ·rename_i i r h1; injection h with h; simp only [Prod.mk.injEq] at h; obtain ⟨rfl, rfl⟩ := h; exact Zji F fu _ _ _ _ _ _ _ _ h1
   ·rename_i r h1; injection h with h; simp only [Prod.mk.injEq] at h; obtain ⟨rfl, rfl⟩ := h; exact Zji F fu _ _ _ _ _ _ _ _ h1
   ·cases h
  case cond x y z =>
   split at h
   ·split at h
    ·exact Zji F fu _ _ _ _ _ _ _ _ h
    ·exact Zji F fu _ _ _ _ _ _ _ _ h
   ·cases h
  case block id x =>
   split at h
   ·rename_i i r h1
    cases hb : Nat.beq i id with
    | true => rw [hb] at h; injection h with h; simp only [Prod.mk.injEq] at h; obtain ⟨rfl, rfl⟩ := h; exact Zji F fu _ _ _ _ _ _ _ _ h1
    | false => rw [hb] at h; injection h with h; simp only [Prod.mk.injEq] at h; obtain ⟨rfl, rfl⟩ := h; exact Zji F fu _ _ _ _ _ _ _ _ h1
   ·rename_i r h1; injection h with h; simp only [Prod.mk.injEq] at h; obtain ⟨rfl, rfl⟩ := h; exact Zji F fu _ _ _ _ _ _ _ _ h1
   ·rename_i r h1; injection h with h; simp only [Prod.mk.injEq] at h; obtain ⟨rfl, rfl⟩ := h; exact Zji F fu _ _ _ _ _ _ _ _ h1
   ·cases h
  case rangeFunc g ps asg body =>
   obtain ⟨_, h⟩ := Zo3 h
   split at h
   ·rename_i e1 s1 h1
    injection h with h; simp only [Prod.mk.injEq] at h; obtain ⟨rfl, rfl, rfl, rfl⟩ := h
    exact up_rf F h1
   ·cases h
  case region id ops draw =>
   split at h
   ·rename_i e1 T1 s1 h1
    injection h with h; simp only [Prod.mk.injEq] at h; obtain ⟨rfl, rfl, rfl, rfl⟩ := h
    exact upC _ _ _ _ _ _ _ h1
   ·cases h
  case loop x =>
   split at h
   ·rename_i e1 T1 s1 h1
    injection h with h; simp only [Prod.mk.injEq] at h; obtain ⟨rfl, rfl, rfl, rfl⟩ := h
    exact upC _ _ _ _ _ _ _ h1
   ·cases h
  all_goals cases h
theorem Zf9 (F : Fit P ext) {nt : Nat} : ∀ (fu : Nat) (c : Code) (T : Tr Value) (s : St) (m : Bool) (e : Ex) (T' : Tr Value) (s' : St) (m' : Bool), evR P ext nt fu c T s m = some (e, T', s', m') → (∀ p ∈ s'.ob, p.1 = p.2) →
  ∀ b ι D a w, b ≤ w.heap.size → TR ι nt D T a → Mk b m D ι w → Emb P ι s.h.get w → Fresh ι s.n s'.n → c.wpIn (Fr none) 0 P (ZoA b P ι s w nt e T' s' m') a w
 | 0, _, _, _, _, _, _, _, _, h => by simp [evR] at h
 | fu + 1, c, T, s, m, e, T', s', m', h => by
  intro ho b ι D a w hbw hT hM he hf
  have code : ∀ {c : Code} {e1 : Ex} {T1 : Tr Value} {s1 : St}, Zav P ext nt (fu + 1) c T s = some (e1, T1, s1) → (∀ p ∈ s1.ob, p.1 = p.2) → Fresh ι s.n s1.n → c.wpIn (Fr none) 0 P (ZoA b P ι s w nt e1 T1 s1 m) a w := fun h1 ho1 hf1 => by
   refine (wpIn_wide (n := 0)).2 (wp_mono ((Zfl F (fu + 1)).1 nt _ T s _ _ _ h1 ho1 ι D a w hT he hf1) ?_)
   rintro ex a1 w1 ⟨rfl, ι1, g1, g2, g3⟩
   exact ⟨rfl, ι1, D, g1, g2, g3, hM.step g1⟩
  have two : ∀ {ι1 : Ren} {s1 : St} {w1 : World}, Step P ι s.h.get w ι1 s1.h.get w1 → Dom ι ι1 s.n s1.n → s.n ≤ s1.n → s1.n ≤ s'.n → ∀ ex a W, ZoA b P ι1 s1 w1 nt e T' s' m' ex a W → ZoA b P ι s w nt e T' s' m' ex a W :=
   fun hS hd h1 h2 ex a W ⟨hx, ι', D', k1, k2, k3, k4⟩ => ⟨hx, ι', D', hS.trans k1, hd.trans k2 h1 h2, k3, k4⟩
  cases c <;> simp only [evR] at h
  case skip => injection h with h; simp only [Prod.mk.injEq] at h; obtain ⟨rfl, rfl, rfl, rfl⟩ := h; exact wpIn_skip ⟨rfl, ι, D, Step.refl he, Dom.refl, hT, hM⟩
  case ret => injection h with h; simp only [Prod.mk.injEq] at h; obtain ⟨rfl, rfl, rfl, rfl⟩ := h; exact wpIn_ret ⟨rfl, ι, D, Step.refl he, Dom.refl, hT, hM⟩
  case exit id => injection h with h; simp only [Prod.mk.injEq] at h; obtain ⟨rfl, rfl, rfl, rfl⟩ := h; exact wpIn_exit ⟨rfl, ι, D, Step.refl he, Dom.refl, hT, hM⟩
  case seq x y =>
   split at h
   ·rename_i T1 s1 m1 h1
    have u1 := Zji F fu _ _ _ _ _ _ _ _ h1
    have u2 := Zji F fu _ _ _ _ _ _ _ _ h
    refine wpIn_seq (wpIn_mono (Zf9 F fu x T s m .normal T1 s1 m1 h1 (Zbm u2.ob ho) b ι D a w hbw hT hM he (hf.mono (Nat.le_refl _) u2.n)) ?_)
    rintro ex a1 w1 ⟨rfl, ι1, D1, g1, g2, g3, g4⟩
    exact wpIn_mono (Zf9 F fu y T1 s1 m1 e T' s' m' h ho b ι1 D1 a1 w1 (Nat.le_trans hbw g1.size) g3 g4 g1.emb (hf.after g2 u1.n)) (two g1 g2 u1.n u2.n)
   ·rename_i i r h1
    injection h with h; simp only [Prod.mk.injEq] at h; obtain ⟨rfl, rfl⟩ := h
    refine wpIn_seq (wpIn_mono (Zf9 F fu x T s m _ _ _ _ h1 ho b ι D a w hbw hT hM he hf) ?_)
    rintro ex a1 w1 ⟨rfl, hq⟩
    exact ⟨rfl, hq⟩
   ·rename_i r h1
    injection h with h; simp only [Prod.mk.injEq] at h; obtain ⟨rfl, rfl⟩ := h
    refine wpIn_seq (wpIn_mono (Zf9 F fu x T s m _ _ _ _ h1 ho b ι D a w hbw hT hM he hf) ?_)
    rintro ex a1 w1 ⟨rfl, hq⟩
    exact ⟨rfl, hq⟩
   ·cases h
  case cond x y z =>
   split at h
   ·rename_i t ht
    have hx : a.eval x = .bool t := ZgJ ((ht ▸ hT.opnd x : VR ι (.bool t) (ZcJ a x)).bool_inv)
    split at h
    ·exact wpIn_cond_true hx (Zf9 F fu y T s m e T' s' m' h ho b ι D a w hbw hT hM he hf)
    ·exact wpIn_cond_false hx (Zf9 F fu z T s m e T' s' m' h ho b ι D a w hbw hT hM he hf)
   ·cases h
  case block id x =>
   split at h
   ·rename_i i r h1
    cases hb : Nat.beq i id with
    | true =>
     rw [hb] at h
     injection h with h; simp only [Prod.mk.injEq] at h; obtain ⟨rfl, rfl⟩ := h
     refine wpIn_block (wpIn_mono (Zf9 F fu x T s m _ _ _ _ h1 ho b ι D a w hbw hT hM he hf) ?_)
     rintro ex a1 w1 ⟨rfl, hq⟩
     show if i = id then _ else _
     rw [if_pos (Nat.eq_of_beq_eq_true hb)]
     exact ⟨rfl, hq⟩
    | false =>
     rw [hb] at h
     injection h with h; simp only [Prod.mk.injEq] at h; obtain ⟨rfl, rfl⟩ := h
     refine wpIn_block (wpIn_mono (Zf9 F fu x T s m _ _ _ _ h1 ho b ι D a w hbw hT hM he hf) ?_)
     rintro ex a1 w1 ⟨rfl, hq⟩
     show if i = id then _ else _
     rw [if_neg (fun e => by rw [Zkk e] at hb; cases hb)]
     exact ⟨rfl, hq⟩
   ·rename_i r h1
    injection h with h; simp only [Prod.mk.injEq] at h; obtain ⟨rfl, rfl⟩ := h
    refine wpIn_block (wpIn_mono (Zf9 F fu x T s m _ _ _ _ h1 ho b ι D a w hbw hT hM he hf) ?_)
    rintro ex a1 w1 ⟨rfl, hq⟩
    exact ⟨rfl, hq⟩
   ·rename_i r h1
    injection h with h; simp only [Prod.mk.injEq] at h; obtain ⟨rfl, rfl⟩ := h
    refine wpIn_block (wpIn_mono (Zf9 F fu x T s m _ _ _ _ h1 ho b ι D a w hbw hT hM he hf) ?_)
    rintro ex a1 w1 ⟨rfl, hq⟩
    exact ⟨rfl, hq⟩
   ·cases h
  case rangeFunc g ps asg body =>
   obtain ⟨hm, h⟩ := Zo3 h
   split at h
   ·rename_i e1 s1 h1
    injection h with h; simp only [Prod.mk.injEq] at h; obtain ⟨rfl, rfl, rfl, rfl⟩ := h
    subst hm
    obtain rfl : D = [] := hM
    exact Zxr F h1 ho hbw hT he hf
   ·cases h
  case region id ops draw =>
   split at h
   ·rename_i e1 T1 s1 h1
    injection h with h; simp only [Prod.mk.injEq] at h; obtain ⟨rfl, rfl, rfl, rfl⟩ := h
    exact code h1 ho hf
   ·cases h
  case loop x =>
   split at h
   ·rename_i e1 T1 s1 h1
    injection h with h; simp only [Prod.mk.injEq] at h; obtain ⟨rfl, rfl, rfl, rfl⟩ := h
    exact code h1 ho hf
   ·cases h
  all_goals cases h
theorem ZoB (F : Fit P ext) {fu : Nat} {f : FuncId} {fn : Func} {c : Code} (hfn : P.funcs[f]? = some fn) (hb : fn.body = some c) : Ztp P f (ZkR P ext fu f) := by
 refine ⟨⟨fn, c, hfn, hb⟩, fun args s v s' h => ?_, fun args s v s' h ho ι w args' ha he hf => ?_⟩
 ·unfold ZkR at h
  rw [hfn] at h
  simp only [hb] at h
  replace h := (Zo h).2
  split at h
  ·cases h
  ·rename_i h1
   have u := Zji F fu _ _ _ _ _ _ _ _ h1
   split at h
   ·injection h with h; injection h with q1 q2; subst q2; exact u
   ·injection h with h; injection h with q1 q2; subst q2; exact u
   ·cases h
  ·cases h
 ·unfold ZkR at h
  rw [hfn] at h
  simp only [hb] at h
  obtain ⟨hsz, h⟩ := Zo h
  have hle : args.size ≤ fn.ntmps := Nat.le_of_ble_eq_true hsz
  split at h
  ·cases h
  ·rename_i ex T1 s1 m1 hne h1
   have hs : s' = s1 ∧ (match ZbO P T1 s1 fn.results.toList with | some [v] => some v | some vs => some (.tuple vs.toArray) | none => none) = some v := by
    split at h
    ·rename_i hr; injection h with h; injection h with q1 q2; subst q1 q2; exact ⟨rfl, by rw [hr]⟩
    ·rename_i vs hn hr; injection h with h; injection h with q1 q2; subst q1 q2
     refine ⟨rfl, ?_⟩
     rw [hr]
     rcases vs with _ | ⟨x, _ | ⟨y, vs⟩⟩
     ·rfl
     ·exact absurd rfl (hn x)
     ·rfl
    ·cases h
   obtain ⟨rfl, hres⟩ := hs
   refine (callsIn_wide (n := 0)).1 (callsIn_of_wp_marks hfn hb trivial (wpIn_mono (Zf9 F fu c _ s false ex T1 s' m1 h1 ho w.heap.size ι [] _ w (Nat.le_refl _) (ZkM ha hle) rfl he hf) ?_))
   rintro e2 a2 w2 ⟨rfl, ι2, D2, g1, g2, g3, g4⟩
   have fin : LeavesInM (Fr none) 0 P fn a2.tmps (Zri P ι s w v s') a2.defers .returning w2 := by
    rw [g3.2.1]
    cases m1 with
    | false =>
     obtain rfl : D2 = [] := g4
     obtain ⟨v', hrun, hv⟩ := Zfx g3 g1.emb hres
     exact ⟨v', hrun, v', ι2, rfl, g1, g2, hv⟩
    | true =>
     obtain ⟨K, hKw, rfl, hk, hn⟩ := g4
     have g1' := g1.put hKw hn (.deferred none)
     obtain ⟨v', hrun, hv⟩ := Zfx g3 g1'.emb hres
     exact ⟨by simp, .inl ⟨K, _, rfl, run_takeDeferred hk, v', hrun, v', ι2, rfl, g1', g2, hv⟩⟩
   cases ex with
   | normal => exact fin
   | ret => exact fin
   | exit i => exact (hne i rfl).elim
  ·cases h
end
end Ev
end Go.Proofs.YtaajdoclloamlaaGreat
/- The runner over this program. -/
namespace Go.Proofs.YtaajdoclloamlaaGreat
open Go.RowKit
namespace Ev

def Zwi : FuncId → Option Ext := fun f =>
  bif Nat.beq f 174 then some (.at .i64 0) else
  bif Nat.beq f 272 then some (.at .i64 1) else
  bif Nat.beq f 321 then some (.at .i64 2) else
  bif Nat.beq f 329 then some (.at .i64 3) else
  bif Nat.beq f 319 then some (.at .i32 2) else
  bif Nat.beq f 314 then some (.at .i32 3) else
  bif Nat.beq f 206 then some (.at .u32 0) else
  bif Nat.beq f 270 then some (.at .u32 1) else
  bif Nat.beq f 313 then some (.mark 0) else
  bif Nat.beq f 315 then some (.mark 0) else
  bif Nat.beq f 316 then some (.mark 1) else
  bif Nat.beq f 318 then some (.mark 1) else
   none

theorem noGo : (Tryz.prog.funcs.toList.all fun fn => !(fn.name == "runtime.NumGoroutine")) = true := by kernel_rfl
theorem mixed : Tryz.prog.follows .mixedOrders = true := by kernel_rfl
def Ztx (sp : FuncId → Option (List Value → Option Value)) (hp : FuncId → Option (Array Value → St → Out)) : FuncId → Option Ext := fun f => match Zwi f with
  | some e => some e
  | none => match sp f with
    | some g => some (.fn g)
    | none => match hp f with
      | some g => some (.hp g)
      | none => none
def noHp : FuncId → Option (Array Value → St → Out) := fun _ => none
def extW (sp : FuncId → Option (List Value → Option Value)) : FuncId → Option Ext := Ztx sp noHp
def Zrm (sp : FuncId → Option (List Value → Option Value)) : Prop := ∀ (f : Nat) (g : List Value → Option Value), sp f = some g → (∃ (fn : Func) (c : Code), Tryz.prog.funcs[f]? = some fn ∧ fn.body = some c) ∧
  ∀ (args : Array Value) (v : Value), ZN Ze5 args.toList = true → g args.toList = some v → ∀ w, Calls Tryz.prog f args w fun e w' => e = .returned v ∧ Below w.heap.size w w'
def Zte (hp : FuncId → Option (Array Value → St → Out)) : Prop := ∀ (f : Nat) (g : Array Value → St → Out), hp f = some g → Ztp Tryz.prog f g
theorem Zxs : Zte noHp := fun f g h => by cases h
theorem Zb5 {b : Bool} {x e : Ext} {y : Option Ext} (h : (bif b then some x else y) = some e) : (b = true ∧ x = e) ∨ y = some e := by
  cases b with
  | true => exact .inl ⟨rfl, by simpa using h⟩
  | false => exact .inr (by simpa using h)
theorem ZnX {f : Nat} {e : Ext} (he : Zwi f = some e) : (∀ (kk : IntKind) (c : Nat), e = .at kk c → ∃ fn : Func, Tryz.prog.funcs[f]? = some fn ∧ fn.body.isNone = true ∧ Extern.findNext fn = none ∧
    (c = 0 ∧ Extern.find fn = some (Extern.Atomic.loadT (.int kk)) ∨ c = 1 ∧ Extern.find fn = some Extern.Atomic.storeT ∨
     c = 2 ∧ Extern.find fn = some (Extern.Atomic.update (Op.intArith .add) kk true) ∨ c = 3 ∧ Extern.find fn = some (Extern.Atomic.casT (.int kk)))) ∧
    (∀ n : Nat, e = .mark n → ∃ fn : Func, Tryz.prog.funcs[f]? = some fn ∧ fn.body.isNone = true ∧ Extern.findNext fn = none ∧
    (n = 0 ∧ (∃ m : Mark, Extern.find fn = some (fun _ => do mark m; pure Extern.Race.none_)) ∨ n = 1 ∧ ∃ m : Addr → Mark, Extern.find fn = some (Extern.Race.marked m))) ∧ (∀ g, e ≠ .fn g) ∧ (∀ g, e ≠ .hp g) ∧ (∀ S, e ≠ .tc S) := by
  unfold Zwi at he
  rcases Zb5 he with ⟨hb, hx⟩ | he
  · obtain rfl := Nat.eq_of_beq_eq_true hb; subst hx; refine ⟨fun kk c hc => ?_, fun n hn => (by cases hn), fun g hg => (by cases hg), fun g hg => (by cases hg), fun S hg => (by cases hg)⟩; injection hc with h1 h2; subst h1 h2; exact ⟨_, Tryz.func174, by kernel_rfl, by kernel_rfl, .inl ⟨rfl, by kernel_rfl⟩⟩
  rcases Zb5 he with ⟨hb, hx⟩ | he
  · obtain rfl := Nat.eq_of_beq_eq_true hb; subst hx; refine ⟨fun kk c hc => ?_, fun n hn => (by cases hn), fun g hg => (by cases hg), fun g hg => (by cases hg), fun S hg => (by cases hg)⟩; injection hc with h1 h2; subst h1 h2; exact ⟨_, Tryz.func272, by kernel_rfl, by kernel_rfl, .inr (.inl ⟨rfl, by kernel_rfl⟩)⟩
  rcases Zb5 he with ⟨hb, hx⟩ | he
  · obtain rfl := Nat.eq_of_beq_eq_true hb; subst hx; refine ⟨fun kk c hc => ?_, fun n hn => (by cases hn), fun g hg => (by cases hg), fun g hg => (by cases hg), fun S hg => (by cases hg)⟩; injection hc with h1 h2; subst h1 h2; exact ⟨_, Tryz.func321, by kernel_rfl, by kernel_rfl, .inr (.inr (.inl ⟨rfl, by kernel_rfl⟩))⟩
  rcases Zb5 he with ⟨hb, hx⟩ | he
  · obtain rfl := Nat.eq_of_beq_eq_true hb; subst hx; refine ⟨fun kk c hc => ?_, fun n hn => (by cases hn), fun g hg => (by cases hg), fun g hg => (by cases hg), fun S hg => (by cases hg)⟩; injection hc with h1 h2; subst h1 h2; exact ⟨_, Tryz.func329, by kernel_rfl, by kernel_rfl, .inr (.inr (.inr ⟨rfl, by kernel_rfl⟩))⟩
  rcases Zb5 he with ⟨hb, hx⟩ | he
  · obtain rfl := Nat.eq_of_beq_eq_true hb; subst hx; refine ⟨fun kk c hc => ?_, fun n hn => (by cases hn), fun g hg => (by cases hg), fun g hg => (by cases hg), fun S hg => (by cases hg)⟩; injection hc with h1 h2; subst h1 h2; exact ⟨_, Tryz.func319, by kernel_rfl, by kernel_rfl, .inr (.inr (.inl ⟨rfl, by kernel_rfl⟩))⟩
  rcases Zb5 he with ⟨hb, hx⟩ | he
  · obtain rfl := Nat.eq_of_beq_eq_true hb; subst hx; refine ⟨fun kk c hc => ?_, fun n hn => (by cases hn), fun g hg => (by cases hg), fun g hg => (by cases hg), fun S hg => (by cases hg)⟩; injection hc with h1 h2; subst h1 h2; exact ⟨_, Tryz.func314, by kernel_rfl, by kernel_rfl, .inr (.inr (.inr ⟨rfl, by kernel_rfl⟩))⟩
  rcases Zb5 he with ⟨hb, hx⟩ | he
  · obtain rfl := Nat.eq_of_beq_eq_true hb; subst hx; refine ⟨fun kk c hc => ?_, fun n hn => (by cases hn), fun g hg => (by cases hg), fun g hg => (by cases hg), fun S hg => (by cases hg)⟩; injection hc with h1 h2; subst h1 h2; exact ⟨_, Tryz.func206, by kernel_rfl, by kernel_rfl, .inl ⟨rfl, by kernel_rfl⟩⟩
  rcases Zb5 he with ⟨hb, hx⟩ | he
  · obtain rfl := Nat.eq_of_beq_eq_true hb; subst hx; refine ⟨fun kk c hc => ?_, fun n hn => (by cases hn), fun g hg => (by cases hg), fun g hg => (by cases hg), fun S hg => (by cases hg)⟩; injection hc with h1 h2; subst h1 h2; exact ⟨_, Tryz.func270, by kernel_rfl, by kernel_rfl, .inr (.inl ⟨rfl, by kernel_rfl⟩)⟩
  rcases Zb5 he with ⟨hb, hx⟩ | he
  · obtain rfl := Nat.eq_of_beq_eq_true hb; subst hx; refine ⟨fun kk c hc => (by cases hc), fun n hn => ?_, fun g hg => (by cases hg), fun g hg => (by cases hg), fun S hg => (by cases hg)⟩; injection hn with h1; subst h1; exact ⟨_, Tryz.func313, by kernel_rfl, by kernel_rfl, .inl ⟨rfl, Mark.disable, by kernel_rfl⟩⟩
  rcases Zb5 he with ⟨hb, hx⟩ | he
  · obtain rfl := Nat.eq_of_beq_eq_true hb; subst hx; refine ⟨fun kk c hc => (by cases hc), fun n hn => ?_, fun g hg => (by cases hg), fun g hg => (by cases hg), fun S hg => (by cases hg)⟩; injection hn with h1; subst h1; exact ⟨_, Tryz.func315, by kernel_rfl, by kernel_rfl, .inl ⟨rfl, Mark.enable, by kernel_rfl⟩⟩
  rcases Zb5 he with ⟨hb, hx⟩ | he
  · obtain rfl := Nat.eq_of_beq_eq_true hb; subst hx; refine ⟨fun kk c hc => (by cases hc), fun n hn => ?_, fun g hg => (by cases hg), fun g hg => (by cases hg), fun S hg => (by cases hg)⟩; injection hn with h1; subst h1; exact ⟨_, Tryz.func316, by kernel_rfl, by kernel_rfl, .inr ⟨rfl, Mark.acquire, by kernel_rfl⟩⟩
  rcases Zb5 he with ⟨hb, hx⟩ | he
  · obtain rfl := Nat.eq_of_beq_eq_true hb; subst hx; refine ⟨fun kk c hc => (by cases hc), fun n hn => ?_, fun g hg => (by cases hg), fun g hg => (by cases hg), fun S hg => (by cases hg)⟩; injection hn with h1; subst h1; exact ⟨_, Tryz.func318, by kernel_rfl, by kernel_rfl, .inr ⟨rfl, Mark.releaseMerge, by kernel_rfl⟩⟩
  cases he
theorem Ziy {sp : FuncId → Option (List Value → Option Value)} {hp : FuncId → Option (Array Value → St → Out)} {f : Nat} {e : Ext} (h : Ztx sp hp f = some e) : Zwi f = some e ∨ (∃ g, sp f = some g ∧ e = .fn g) ∨ ∃ g, hp f = some g ∧ e = .hp g := by
  unfold Ztx at h
  split at h
  · rename_i e' he'
    injection h with h; subst h
    exact .inl he'
  · split at h
    · rename_i g hg
      injection h with h; subst h
      exact .inr (.inl ⟨g, hg, rfl⟩)
    · split at h
      · rename_i g hg
        injection h with h; subst h
        exact .inr (.inr ⟨g, hg, rfl⟩)
      · cases h
theorem Zxt {sp : FuncId → Option (List Value → Option Value)} {hp : FuncId → Option (Array Value → St → Out)} (hsp : Zrm sp) (hhp : Zte hp) : Fit Tryz.prog (Ztx sp hp) := by
  refine ⟨mixed, fun f fn hf => ?_, fun f g hg => ?_, fun f g hg => ?_, fun f S hS => ?_, fun f n hn => ?_, fun f kk e he => ?_⟩
  · have := List.all_eq_true.1 noGo fn (by
      obtain ⟨h, rfl⟩ := Array.getElem?_eq_some_iff.1 hf
      simp)
    simpa using this
  · rcases Ziy hg with h | ⟨g', h, hx⟩ | ⟨g', h, hx⟩
    · exact ((ZnX h).2.2.1 g rfl).elim
    · injection hx with hx; subst hx; exact hsp f g h
    · cases hx
  · rcases Ziy hg with h | ⟨g', h, hx⟩ | ⟨g', h, hx⟩
    · exact ((ZnX h).2.2.2.1 g rfl).elim
    · cases hx
    · injection hx with hx; subst hx; exact hhp f g h
  · rcases Ziy hS with h | ⟨g', h, hx⟩ | ⟨g', h, hx⟩
    · exact ((ZnX h).2.2.2.2 S rfl).elim
    · cases hx
    · cases hx
  · rcases Ziy hn with h | ⟨g', h, hx⟩ | ⟨g', h, hx⟩
    · exact (ZnX h).2.1 n rfl
    · cases hx
    · cases hx
  · rcases Ziy he with h | ⟨g', h, hx⟩ | ⟨g', h, hx⟩
    · exact (ZnX h).1 kk e rfl
    · cases hx
    · cases hx
theorem fitW {sp : FuncId → Option (List Value → Option Value)} (hsp : Zrm sp) : Fit Tryz.prog (extW sp) := Zxt hsp Zxs
def Zwj : FuncId → Option (List Value → Option Value) := fun _ => none
theorem Zty : Zrm Zwj := fun f g h => by cases h
def ext1 : FuncId → Option Ext := extW Zwj
theorem fit1 : Fit Tryz.prog ext1 := fitW Zty
noncomputable def hp0 : FuncId → Option (Array Value → St → Out) := fun f =>
  bif Nat.beq f 179 then some (Zrk Tryz.prog ext1 20000 179) else
   none
theorem ZwI : Zte hp0 := by
  intro f g h
  unfold hp0 at h
  cases hb : Nat.beq f 179 with
  | false => rw [hb] at h; simp at h
  | true =>
    rw [hb] at h
    obtain rfl := Nat.eq_of_beq_eq_true hb
    simp only [cond_true, Option.some.injEq] at h
    subst h
    exact Zwc fit1 Tryz.func179 rfl
noncomputable def Zwk : FuncId → Option Ext := Ztx Zwj hp0
theorem Zxu : Fit Tryz.prog Zwk := Zxt Zty ZwI
noncomputable def hp1 : FuncId → Option (Array Value → St → Out) := fun f =>
  bif Nat.beq f 259 then some (ZkR Tryz.prog Zwk 20000 259) else
  bif Nat.beq f 294 then some (ZkR Tryz.prog Zwk 20000 294) else
  bif Nat.beq f 47 then some (ZkR Tryz.prog Zwk 20000 47) else
   hp0 f
theorem Zwl {β : Type} {b : Bool} {x e : β} {y : Option β} (h : (bif b then some x else y) = some e) : (b = true ∧ x = e) ∨ y = some e := by
  cases b with
  | true => injection h with h; exact .inl ⟨rfl, h⟩
  | false => exact .inr h
theorem Zya : Zte hp1 := by
  intro f g h
  unfold hp1 at h
  rcases Zwl h with ⟨hb, rfl⟩ | h
  · obtain rfl := Nat.eq_of_beq_eq_true hb; exact ZoB Zxu Tryz.func259 rfl
  rcases Zwl h with ⟨hb, rfl⟩ | h
  · obtain rfl := Nat.eq_of_beq_eq_true hb; exact ZoB Zxu Tryz.func294 rfl
  rcases Zwl h with ⟨hb, rfl⟩ | h
  · obtain rfl := Nat.eq_of_beq_eq_true hb; exact ZoB Zxu Tryz.func47 rfl
  exact ZwI f g h
noncomputable def Zwm (sp : FuncId → Option (List Value → Option Value)) : FuncId → Option Ext := Ztx sp hp1
theorem Zxv {sp : FuncId → Option (List Value → Option Value)} (hsp : Zrm sp) : Fit Tryz.prog (Zwm sp) := Zxt hsp Zya
noncomputable def ext : FuncId → Option Ext := Zwm Zwj
theorem fit : Fit Tryz.prog ext := Zxv Zty
def ZuH (e : FuncId → Option Ext) (tc : FuncId → Bool) : FuncId → Option Ext := fun f => bif tc f then some (.tc (Zk Tryz.prog f)) else e f
theorem fitT {e : FuncId → Option Ext} {tc : FuncId → Bool} (F : Fit Tryz.prog e) (hb : ∀ f, tc f = true → ∃ (fn : Func) (c : Code), Tryz.prog.funcs[f]? = some fn ∧ fn.body = some c) : Fit Tryz.prog (ZuH e tc) := by
  have cs : ∀ {f : Nat} {x : Ext}, ZuH e tc f = some x → (tc f = true ∧ x = .tc (Zk Tryz.prog f)) ∨ e f = some x := fun {f x} h => by
    unfold ZuH at h
    cases ht : tc f with
    | true => rw [ht] at h; injection h with h; exact .inl ⟨rfl, h.symm⟩
    | false => rw [ht] at h; exact .inr h
  refine ⟨F.mixed, F.go, fun f g hg => ?_, fun f g hg => ?_, fun f S hS => ?_, fun f n hn => ?_, fun f kk x hx => ?_⟩
  · rcases cs hg with ⟨_, h⟩ | h
    · cases h
    · exact F.fn f g h
  · rcases cs hg with ⟨_, h⟩ | h
    · cases h
    · exact F.hp f g h
  · rcases cs hS with ⟨ht, h⟩ | h
    · injection h with h; subst h; exact ⟨hb f ht, fun _ _ _ _ _ _ h => h⟩
    · exact F.tc f S h
  · rcases cs hn with ⟨_, h⟩ | h
    · cases h
    · exact F.mark f n h
  · rcases cs hx with ⟨_, h⟩ | h
    · cases h
    · exact F.ext f kk x h
def out (r : Out) : Option Value := match r with
  | some (v, s) => match s.ob with
    | [] => bif Ze5 v && Nat.ble s.n 1000000000 then some v else none
    | _ => none
  | none => none
theorem ZcL (fu : Nat) {f : FuncId} {args : Array Value} {v : Value} (w : World) (h : out (ZdN Tryz.prog ext fu f args ⟨.nil, 0, [], ⟨[], [], [], [], []⟩, []⟩) = some v) (ha : ZN Ze5 args.toList = true) : Calls Tryz.prog f args w (Ret v w) := by
  unfold out at h
  split at h
  · rename_i u s hr
    split at h
    · rename_i ho
      obtain ⟨hf, h⟩ := Zo h
      injection h with h
      subst h
      exact (ZxY fit hr (by rw [ho]; simp) (VRs.of_free ha) (Bool.and_eq_true_iff.1 hf).1 (Nat.le_of_ble_eq_true (Bool.and_eq_true_iff.1 hf).2) w).mono fun e w' ⟨h1, h2⟩ => ⟨h1, h2⟩
    · cases h
  · cases h
end Ev
end Go.Proofs.YtaajdoclloamlaaGreat
/- Arguments that hold no address: which cells they have. -/
namespace Go.Proofs.YtaajdoclloamlaaGreat
open Go.ChangeShapes Go.WideShapes Go.ChangeAt Go.RowKit
namespace Ev
section
variable {P : Program} {w : World} {r : Reach} {base : Nat}
theorem Ztf {u : TypeId} {k : IntKind} {c : Value} (hu : P.underlying u = some (.int k)) (h : Cell.okWide P w r base u c) : ∃ n, c = .int k n ∧ k.has n := by
 unfold Cell.okWide Cell.ok at h
 rw [hu] at h
 cases c <;> simp at h
 obtain ⟨rfl, h⟩ := h
 exact ⟨_, rfl, h⟩
theorem Ztg {t : TypeId} {v : Value} (hu : (match P.underlying t with | some (.struct _) | some (.array _ _) => true | _ => false) = false) (h : Value.okWide P w r base t v) : Cell.okWide P w r base t v := by
 unfold Value.okWide at h
 split at h
 ·rename_i h1; rw [h1] at hu; cases hu
 ·rename_i h1; rw [h1] at hu; cases hu
 ·exact h
def Zx9 : Nat → List (Nat × Bool) → List (Option Bool)
 | _, [] => []
 | n, (i, b) :: l => List.replicate (i - n) none ++ (some b :: Zx9 (i + 1) l)
def ZxA : Nat → List (Nat × Int) → List (Option Int)
 | _, [] => []
 | n, (i, b) :: l => List.replicate (i - n) none ++ (some b :: ZxA (i + 1) l)
def Zug {α : Type} : Nat → List (Nat × α) → List (Option α)
 | _, [] => []
 | n, (i, b) :: l => List.replicate (i - n) none ++ (some b :: Zug (i + 1) l)
def Zl (b : List (Nat × Bool)) (v : List (Nat × Int)) (x : List (Nat × Nat)) (l : List (Nat × List Cell)) (w : List (Nat × ZB)) : Orc := ⟨Zx9 0 b, ZxA 0 v, Zug 0 x, Zug 0 l, Zug 0 w⟩
theorem Zf : ∀ p ∈ ([] : List (Bool × Bool)), p.1 = p.2 := by simp
theorem Zb {a b : Bool} {l : List (Bool × Bool)} (h : a = b) (hl : ∀ q ∈ l, q.1 = q.2) : ∀ q ∈ (a, b) :: l, q.1 = q.2 := by
 intro q hq
 rcases List.mem_cons.1 hq with rfl | hq
 ·exact h
 ·exact hl q hq
theorem Zyb {x : Int} (h : -9223372036854775808 ≤ x ∧ x < 9223372036854775808) : IntKind.i64.wrap x = x := by
 rw [IntKind.wrap_i64]
 omega
end
end Ev
end Go.Proofs.YtaajdoclloamlaaGreat
/- How runs of functions with loops are written: what is looked at of a stop, and rows of numbers. -/
namespace Go.Proofs.YtaajdoclloamlaaGreat
open Go.RowKit
namespace Ev
/-! ### Where a loop stands -/
def Zj0 : List Nat → Code → List ZeK → Code × List ZeK
  | [], .loop a, K => (a, K)
  | 0 :: p, .seq a b, K => Zj0 p a (.seq b :: K)
  | 1 :: p, .seq _ b, K => Zj0 p b K
  | 2 :: p, .scope a, K => Zj0 p a (.scp :: K)
  | 3 :: p, .block i a, K => Zj0 p a (.blk i :: K)
  | 4 :: p, .cond _ a _, K => Zj0 p a K
  | 5 :: p, .cond _ _ b, K => Zj0 p b K
  | (n + 6) :: p, .loop a, K => Zj0 p a (.rnd n :: K)
  | _, _, K => (.skip, K)
def Zuh (fn : Func) : Code := match fn.body with | some c => c | none => .skip
noncomputable section
def ZuI (live : List Nat) (r : Option Stop) : Option (Value × List (Option AObj) × List (Bool × Bool)) :=
  match r with
  | some (.fin u s) => bif Nat.ble s.n 1000000000 then some (u, live.map s.h.get, s.ob) else none
  | _ => none
end
theorem Zvx {live : List Nat} {r : Option Stop} {u : Value} {bl : List (Option AObj)} {ob : List (Bool × Bool)} (h : ZuI live r = some (u, bl, ob)) : ∃ s, r = some (.fin u s) ∧ live.map s.h.get = bl ∧ s.ob = ob ∧ s.n ≤ far := by
  unfold ZuI at h
  split at h
  · rename_i u' s
    obtain ⟨hn, h⟩ := Zo h
    injection h with h
    simp only [Prod.mk.injEq] at h
    obtain ⟨rfl, rfl, rfl⟩ := h
    exact ⟨s, rfl, rfl, rfl, Nat.le_of_ble_eq_true hn⟩
  · cases h
def ZvD (ρ : Nat → Nat) : AObj → AObj → Prop
  | .ro O, .ro O' => O = O'
  | .ro O true, .ro O' true => O = O'
  | .cells c t, .cells c' t' => t = t' ∧ (∃ r, c.map (Zb4 ρ 1) = c' ++ r) ∧ ZN (Zbi 1) c = true
  | _, _ => False
def Zgb (ρ : Nat → Nat) : List (Option AObj) → List (Option AObj) → Prop
  | _, [] => True
  | some o :: bl, some p :: l => ZvD ρ o p ∧ Zgb ρ bl l
  | _ :: bl, none :: l => Zgb ρ bl l
  | _, _ => False
def ZnY (ρ : Nat → Nat) : List (Option Value) → List (Nat × Value) → Prop
  | _, [] => True
  | some u :: tv, x :: l => (x.2 = Zb4 ρ 3 u ∧ Zbi 3 u = true) ∧ ZnY ρ tv l
  | _, _ => False
theorem Zj1 {ρ : Nat → Nat} {h : AH} : ∀ {live : List Nat} {l : List (Option AObj)}, Zgb ρ (live.map h) l → ∀ j o, lkO l j = some o → ∃ k, live[j]? = some k ∧ match o with
      | .ro O m => h k = some (.ro O m)
      | .cells c t => ∃ c' r, h k = some (.cells c' t) ∧ c'.map (Zb4 ρ 1) = c ++ r ∧ ZN (Zbi 1) c' = true
  | live, [], _, j, o, hj => by simp [lkO] at hj
  | [], x :: l, hb, j, o, hj => by cases x <;> exact hb.elim
  | k :: live, none :: l, hb, j, o, hj => by
    have hb' : Zgb ρ (live.map h) l := by
      simp only [List.map_cons] at hb
      cases hk : h k <;> rw [hk] at hb <;> exact hb
    cases j with
    | zero => simp [lkO] at hj
    | succ j => obtain ⟨k', q1, q2⟩ := Zj1 hb' j o (by simpa [lkO] using hj); exact ⟨k', by simpa using q1, q2⟩
  | k :: live, some p :: l, hb, j, o, hj => by
    simp only [List.map_cons] at hb
    cases hk : h k with
    | none => rw [hk] at hb; exact hb.elim
    | some o1 =>
      rw [hk] at hb
      cases j with
      | zero =>
        have : p = o := by simpa [lkO] using hj
        subst this
        refine ⟨k, rfl, ?_⟩
        have h1 := hb.1
        cases o1 with
        | cells c1 t1 =>
          cases p with
          | cells c2 t2 => simp only [ZvD] at h1; obtain ⟨rfl, ⟨r, hr⟩, hs⟩ := h1; exact ⟨_, r, hk, hr, hs⟩
          | ro O2 m2 => cases m2 <;> exact h1.elim
        | ro O1 m1 =>
          cases p with
          | cells c2 t2 => cases m1 <;> exact h1.elim
          | ro O2 m2 =>
            cases m1 <;> cases m2
            · obtain rfl : O1 = O2 := h1; exact hk
            · exact h1.elim
            · exact h1.elim
            · obtain rfl : O1 = O2 := h1; exact hk
      | succ j => obtain ⟨k', q1, q2⟩ := Zj1 hb.2 j o (by simpa [lkO] using hj); exact ⟨k', by simpa using q1, q2⟩
theorem ZuJ {ρ : Nat → Nat} {T : Tr Value} : ∀ {l : List (Nat × Value)}, ZnY ρ ((l.map (·.1)).map T.get) l → ∀ t v, Zbb t l = some v → v = Zb4 ρ 3 ((T.get t).getD undef) ∧ Zbi 3 ((T.get t).getD undef) = true
  | [], _, t, v, h => by cases h
  | x :: l, ht, t, v, h => by
    simp only [List.map_cons] at ht
    cases hx : T.get x.1 with
    | none => rw [hx] at ht; exact ht.elim
    | some u =>
      rw [hx] at ht
      unfold Zbb at h
      cases hb : Nat.beq x.1 t with
      | true =>
        rw [hb] at h
        injection h with h
        obtain rfl := Nat.eq_of_beq_eq_true hb
        subst h
        rw [hx]
        exact ht.1
      | false => rw [hb] at h; exact ZuJ ht.2 t v h
section
variable {P : Program} {ext : FuncId → Option Ext}
end
/-! ### Rows of numbers -/
theorem ZbH {a b : Int} (h : 0 ≤ a) : Int.tmod a b = a % b := Int.tmod_eq_emod_of_nonneg h
theorem wrap_i64 {x : Int} (h : -9223372036854775808 ≤ x ∧ x ≤ 9223372036854775807) : IntKind.i64.wrap x = x := Zyb (by omega)
theorem Za {α : Type} {a b : α} {l r : List α} (h : a = b) (t : l = r) : a :: l = b :: r := by rw [h, t]
/-! ### Rows of bools -/
/-! ### Rows of the caller's -/
end Ev
end Go.Proofs.YtaajdoclloamlaaGreat
/- Calls that are told, from what is known of a function. -/
namespace Go.Proofs.YtaajdoclloamlaaGreat
open Go.RowKit
namespace Ev
section
variable {P : Program} {ext : FuncId → Option Ext}
def preL (κ : List Nat) (n : Nat) (pre : List AObj) : List (Nat × AObj) := κ.zip (pre.map (Zo9 (kap κ n)))
def ZxB (κ : List Nat) (n : Nat) (ch : List Nat) (post : List (Option AObj)) : List (Nat × Option AObj) := ch.map fun j => (kap κ n j, (lkO post j).map (Zo9 (kap κ n)))
def Zsh (m : Nat) : List AObj → Prop
 | [] => True
 | o :: l => ZnV m o = true ∧ Zsh m l
def Zmy (m : Nat) : List (Option AObj) → Prop
 | [] => True
 | some o :: l => ZnV m o = true ∧ Zmy m l
 | none :: l => Zmy m l
theorem ZtN {m : Nat} : ∀ {l : List AObj}, Zsh m l → ∀ o ∈ l, ZnV m o = true
 | x :: l, h, o, ho => by
  rcases List.mem_cons.1 ho with rfl | ho
  ·exact h.1
  ·exact ZtN h.2 o ho
theorem ZoC {m : Nat} : ∀ {l : List (Option AObj)}, Zmy m l → ∀ o, some o ∈ l → ZnV m o = true
 | some x :: l, h, o, ho => by
  rcases List.mem_cons.1 ho with e | ho
  ·injection e with e; subst e; exact h.1
  ·exact ZoC h.2 o ho
 | none :: l, h, o, ho => by
  rcases List.mem_cons.1 ho with e | ho
  ·cases e
  ·exact ZoC (l := l) h o ho
def Zwn (ch : List Nat) : Nat → List AObj → List (Option AObj) → Prop
 | _, _, [] => True
 | j, o :: l, p :: r => (j ∈ ch ∨ p = some o) ∧ Zwn ch (j + 1) l r
 | j, [], _ :: r => j ∈ ch ∧ Zwn ch (j + 1) [] r
theorem Ztz {ch : List Nat} : ∀ {l : List AObj} {r : List (Option AObj)} {j : Nat}, Zwn ch j l r → ∀ i, i < r.length → j + i ∈ ch ∨ (i < l.length ∧ r[i]? = some l[i]?)
 | o :: l, p :: r, j, h, 0, _ => by
  rcases h.1 with h | h
  ·exact .inl h
  ·exact .inr ⟨by simp, by simp [h]⟩
 | o :: l, p :: r, j, h, i + 1, hi => by
  rcases Ztz h.2 i (by simpa using hi) with q | ⟨q1, q2⟩
  ·exact .inl (by rwa [show j + (i + 1) = j + 1 + i by omega])
  ·exact .inr ⟨by simpa using q1, by simpa using q2⟩
 | [], p :: r, j, h, 0, _ => .inl h.1
 | [], p :: r, j, h, i + 1, hi => by
  rcases Ztz h.2 i (by simpa using hi) with q | ⟨q1, q2⟩
  ·exact .inl (by rwa [show j + (i + 1) = j + 1 + i by omega])
  ·simp at q1
theorem ZuK {α : Type} {k : Nat} {x : α} : ∀ {ks : List Nat} {l : List α} {j : Nat}, ks.Nodup → ks[j]? = some k → l[j]? = some x → Zbb k (ks.zip l) = some x
 | a :: ks, b :: l, 0, _, h1, h2 => by
  simp at h1 h2
  subst h1 h2
  simp [Zbb]
 | a :: ks, b :: l, j + 1, hn, h1, h2 => by
  have hm : k ∈ ks := List.mem_of_getElem? (by simpa using h1)
  have hne : a ≠ k := fun e => by subst e; exact (List.nodup_cons.1 hn).1 hm
  show Zbb k ((a, b) :: ks.zip l) = _
  unfold Zbb
  rw [Zje hne]
  exact ZuK (List.nodup_cons.1 hn).2 (by simpa using h1) (by simpa using h2)
 | [], _, j, _, h1, _ => by simp at h1
 | a :: ks, [], j, _, _, h2 => by simp at h2
theorem ZuL {f : Nat → Nat} {g : Nat → Option AObj} (hf : ∀ i j, f i = f j → i = j) (j : Nat) : ∀ ch : List Nat, Zbb (f j) (ch.map fun i => (f i, g i)) = if j ∈ ch then some (g j) else none
 | [] => rfl
 | a :: ch => by
  show Zbb (f j) ((f a, g a) :: ch.map fun i => (f i, g i)) = _
  unfold Zbb
  by_cases h : a = j
  ·subst h; rw [Zkk rfl]; simp
  ·rw [Zje (fun e => h (hf _ _ e)), cond_false, ZuL hf j ch]
   simp [show ¬ j = a from fun e => h e.symm]
theorem LSpec.callL {f : FuncId} {A : Array Value} {pre : List AObj} {v : Value} {post : List (Option AObj)} (h : LSpec P f A pre v post) (κ : List Nat) (n : Nat) (ch : List Nat) (hκ : κ.length = pre.length) (hnd : κ.Nodup) (hlt : ∀ k ∈ κ, k < n) (hle : pre.length ≤ post.length) (hch : ∀ j ∈ ch, j < post.length)
  (hA : ZN (ZcK pre.length 3) A.toList = true) (hpre : Zsh pre.length pre) (hv : ZcK post.length 3 v = true) (hpost : Zmy post.length post) (hk : Zwn ch 0 pre post)
  {A' : Array Value} {pre' : List (Nat × AObj)} {v' : Value} {post' : List (Nat × Option AObj)} {dn : Nat} (eA : A' = Ziw (Zb4 (kap κ n) 3) A) (ev : v' = Zb4 (kap κ n) 3 v) (edn : pre.length + dn = post.length) (ep : pre' = preL κ n pre) (eq : post' = ZxB κ n ch post) : Zk P f A' pre' v' post' n dn := by
 have kl : ∀ j, j < pre.length → κ[j]? = some (kap κ n j) := fun j hj => Zta (by omega)
 have kn : ∀ j, j < pre.length → kap κ n j < n := fun j hj => hlt _ (List.mem_of_getElem? (kl j hj))
 have kg : ∀ j, pre.length ≤ j → kap κ n j = n + (j - pre.length) := fun j hj => by rw [← hκ]; exact ZwF (by omega)
 have kinj : ∀ i j, kap κ n i = kap κ n j → i = j := fun i j hij => by
  rcases Nat.lt_or_ge i pre.length with h1 | h1 <;> rcases Nat.lt_or_ge j pre.length with h2 | h2
  ·have a := kl i h1
   have b := kl j h2
   rw [hij, ← b] at a
   exact (List.getElem?_inj (by omega) hnd).1 a
  ·have := kn i h1; rw [hij, kg j h2] at this; omega
  ·have := kn j h2; rw [← hij, kg i h1] at this; omega
  ·rw [kg i h1, kg j h2] at hij; omega
 have lp : ∀ j o, pre[j]? = some o → Zbb (kap κ n j) pre' = some (Zo9 (kap κ n) o) := fun j o ho => by
  subst ep
  have hj : j < pre.length := (List.getElem?_eq_some_iff.1 ho).1
  exact ZuK hnd (kl j hj) (by rw [List.getElem?_map, ho]; rfl)
 have ip : ∀ k o, Zbb k pre' = some o → ∃ j, j < pre.length ∧ k = kap κ n j := fun k o ho => by
  subst ep
  obtain ⟨j, hj1, hj2⟩ := List.getElem_of_mem (List.of_mem_zip (Zlf ho)).1
  have hj : j < pre.length := by omega
  refine ⟨j, hj, ?_⟩
  have := kl j hj
  rw [List.getElem?_eq_getElem hj1, hj2] at this
  exact Option.some.inj this
 have lq : ∀ j, Zbb (kap κ n j) post' = if j ∈ ch then some ((lkO post j).map (Zo9 (kap κ n))) else none := fun j => by
  subst eq
  exact ZuL (g := fun j => (lkO post j).map (Zo9 (kap κ n))) kinj j ch
 refine h.call κ n hκ hnd hlt hle hA (ZtN hpre) hv (ZoC hpost) eA ev edn lp ip (fun j hj => ?_) (fun k o ho => ?_)
 ·unfold behind
  rw [lq j]
  rcases Ztz hk j hj with hc | ⟨h1, h2⟩
  ·rw [Nat.zero_add] at hc
   rw [if_pos hc]
  ·by_cases hc : j ∈ ch
   ·rw [if_pos hc]
   ·rw [if_neg hc]
    have ho : pre[j]? = some pre[j] := List.getElem?_eq_getElem h1
    show Zbb (kap κ n j) pre' = _
    rw [lp j _ ho]
    simp [lkO, h2, ho]
 ·unfold behind at ho
  split at ho
  ·rename_i o' hl
   subst eq
   have := Zlf hl
   unfold ZxB at this
   obtain ⟨j, hj, he⟩ := List.mem_map.1 this
   injection he with h1 h2
   exact ⟨j, hch j hj, h1.symm⟩
  ·obtain ⟨j, hj, hk⟩ := ip k o ho
   exact ⟨j, by omega, hk⟩
end
theorem ZdH {α β : Type} {a a' : α} {b b' : β} (h : a = a') (k : b = b') : (a, b) = (a', b') := by rw [h, k]
theorem ZkT {α : Type} {a a' : α} (h : a = a') : some a = some a' := by rw [h]
end Ev
end Go.Proofs.YtaajdoclloamlaaGreat
/- Functions of many loops: one behind the other, one in another. -/
namespace Go.Proofs.YtaajdoclloamlaaGreat
open Go.RowKit
namespace Ev
section
variable {P : Program} {ext : FuncId → Option Ext}
variable {fn : Func} {pre : List AObj} {v : Value} {po : List (Option AObj)} {X : Type} {m i : Nat} {L : X → List (Nat × Value)} {H : X → List AObj} {μ : X → Nat} {bd : X → List Nat} {Gb : List Nat → Ren → World → (Nat → Act → World → Prop) → Prop} {x : X} {c : Code} {K : List ZeK} {T0 : Tr Value} {fu : Nat} {orc : Orc} {live : List Nat} {bl : List (Option AObj)} {ob : List (Bool × Bool)}
end
/-! ### A law -/
def ιRo (bs : List Nat) : Ren := fun k => (bs[k]?).map fun b => (b, 0)
theorem ZwJ {P : Program} {f : FuncId} {A : Array Value} {pre : List AObj} {post : List (Option AObj)} {v : Value} (h : LSpec P f A pre v post) {w : World} {args' : Array Value} (bs : List Nat) (hl : bs.length = pre.length) (hro : ∀ (j : Nat) (o : AObj), pre[j]? = some o → ∃ (O : Obj) (b : Nat), o = AObj.ro O ∧ bs[j]? = some b ∧ w.heap[b]? = some O) (ha : VRs (ιRo bs) A args') (hv : Ze5 v = true) : Calls P f args' w (Ret v w) := by
 have hdom : ∀ k, ιRo bs k ≠ none → k < pre.length := fun k hk => by
  unfold ιRo at hk
  rcases Nat.lt_or_ge k bs.length with h | h
  ·omega
  ·rw [List.getElem?_eq_none h] at hk; exact absurd rfl hk
 have hC : ∀ k, isC (lk pre k) = false := fun k => by
  unfold lk
  cases hk : pre[k]? with
  | none => rfl
  | some o => obtain ⟨O, b, rfl, _⟩ := hro k o hk; rfl
 have he : Emb P (ιRo bs) (lk pre) w := by
  refine ⟨fun k c t hk => ?_, fun k O hk => ?_, fun k k' b1 b2 h1 => ?_, fun k b1 hk => ?_⟩
  ·obtain ⟨O, b, h1, _⟩ := hro k _ hk; cases h1
  ·obtain ⟨O', b, h1, h2, h3⟩ := hro k _ hk
   injection h1 with h1 h4; subst h1 h4
   exact ⟨(b, 0), by simp [ιRo, h2], h3⟩
  ·rw [hC k] at h1; cases h1
  ·have hlt := hdom k (by rw [hk]; simp)
   obtain ⟨O, b, _, h2, h3⟩ := hro k _ (List.getElem?_eq_getElem hlt)
   simp [ιRo, h2] at hk
   rw [← hk]
   exact (Array.getElem?_eq_some_iff.1 h3).1
 refine (h (ιRo bs) w args' hdom ha he).mono ?_
 rintro e w' ⟨v', ι', rfl, hS, _, hvr⟩
 have := hvr.eq_of_free hv
 subst this
 exact ⟨rfl, hS.os, hS.tape, hS.output, hS.size, fun b hb => hS.frame b hb fun k c hk => by rw [hC k] at hk; cases hk⟩
end Ev
end Go.Proofs.YtaajdoclloamlaaGreat
/- Arguments that are slices of structs of ints, opened, over any program. -/
namespace Go.Proofs.YtaajdoclloamlaaGreat
open Go.ChangeShapes Go.WideShapes Go.ChangeAt Go.RowKit Go.Deep
section
variable {H : Type} {enc : TypeId × Value → H} {P : Program} {w : World}

end
end Go.Proofs.YtaajdoclloamlaaGreat
/- Arguments that are rows of numbers: blocks of the caller's, that are read alone. -/
namespace Go.Proofs.YtaajdoclloamlaaGreat
open Go.ChangeShapes Go.WideShapes Go.ChangeAt Go.RowKit
namespace Ev
section
variable {P : Program} {w : World}
end
end Ev
end Go.Proofs.YtaajdoclloamlaaGreat
/- Arguments that are slices, opened: the block they lie in, and each element as what is read of it. -/
namespace Go.Proofs.YtaajdoclloamlaaGreat
open Go.ChangeShapes Go.WideShapes Go.ChangeAt Go.RowKit Go.Deep
namespace Ev
section
variable {H : Type} {enc : TypeId × Value → H} {P : Program} {w : World}
theorem ZvE {w : World} : ∀ (j : Nat) (o : AObj), ([] : List AObj)[j]? = some o → ∃ (O : Obj) (b : Nat), o = AObj.ro O ∧ ([] : List Nat)[j]? = some b ∧ w.heap[b]? = some O := fun j o h => by simp at h
end
end Ev
end Go.Proofs.YtaajdoclloamlaaGreat
/- Paths of a law, by the runner. -/
namespace Go.Proofs.YtaajdoclloamlaaGreat
open Go.ChangeShapes Go.WideShapes Go.ChangeAt Go.RowKit
namespace Ev
set_option maxRecDepth 100000
namespace HashPrograms
theorem Zcm {a b : Bool} (h : a = true) (k : b = true) : (a && b) = true := by rw [h, k]; rfl
theorem jl0 : ((Rows.hashProgramsRow).wf (OpenSpec.ofChange (Rows.hashProgramsSpec))) = true := by kernel_rfl
theorem jl1 : (laidOutB (Tryz.pinned.checked.prog)) = true := by kernel_rfl
theorem jl2 : (mapsRowed (Tryz.pinned.checked.prog)) = true := by kernel_rfl
theorem jl3 : ((Tryz.f3).params.all ((Tryz.pinned.checked.prog).readableRec ·)) = true := by kernel_rfl
theorem jl4 : (namedTie (Tryz.pinned.checked.prog) (Rows.hashProgramsRow).named (Rows.hashProgramsSpec).vars) = true := by kernel_rfl
theorem jl5 : (((Rows.hashProgramsRow).stops == [])) = true := by kernel_rfl
theorem jl6 : (((Tryz.pinned.checked.prog).stops == [])) = true := by kernel_rfl
theorem jl7 : (((Rows.hashProgramsRow).knobs == [])) = true := by kernel_rfl
theorem jl8 : (((Tryz.pinned.checked.prog).stopKnobs == [])) = true := by kernel_rfl
theorem jl9 : (((Rows.hashProgramsRow).inPlace == (Tryz.pinned.checked.prog).inPlace 3)) = true := by kernel_rfl
theorem jl10 : (((Rows.hashProgramsRow).unfollowed == (Tryz.pinned.checked.prog).unfollowed 3)) = true := by kernel_rfl
theorem jl11 : (((Rows.hashProgramsRow).recurses == (Tryz.pinned.checked.prog).recurses 3)) = true := by kernel_rfl
theorem jl12 : (((Rows.hashProgramsRow).named == (Tryz.pinned.checked.prog).varsNamed 3)) = true := by kernel_rfl
theorem jl13 : (((Rows.hashProgramsRow).maps == ((Tryz.f3).params.toList ++ (Rows.hashProgramsSpec).plain.varTypes (Tryz.pinned.checked.prog)).any ((Tryz.pinned.checked.prog).mapsRec ·))) = true := by kernel_rfl
theorem jl14 : (((Rows.hashProgramsRow).ifaces == ((Tryz.f3).params.toList ++ (Rows.hashProgramsSpec).plain.varTypes (Tryz.pinned.checked.prog)).any ((Tryz.pinned.checked.prog).ifacesRec ·))) = true := by kernel_rfl
theorem jl15 : (((Rows.hashProgramsRow).mapsOut == (Tryz.pinned.checked.prog).mapsAmong (Tryz.f3).resultTypes.toList)) = true := by kernel_rfl
theorem jl16 : (((Rows.hashProgramsRow).loops == ((Tryz.f3).params.toList ++ (Rows.hashProgramsSpec).plain.varTypes (Tryz.pinned.checked.prog)).any ((Tryz.pinned.checked.prog).loopsFrom ·))) = true := by kernel_rfl
theorem jl17 : (((Rows.hashProgramsRow).wideKeys == ((Tryz.f3).params.toList ++ (Rows.hashProgramsSpec).plain.varTypes (Tryz.pinned.checked.prog) ++ (Tryz.f3).resultTypes.toList).any ((Tryz.pinned.checked.prog).wideKeysFrom ·))) = true := by kernel_rfl
theorem jl18 : ((Rows.hashProgramsSpec).vars.all ((Tryz.pinned.checked.prog).varReadable ·)) = true := by kernel_rfl
theorem jl19 : ((Tryz.f3).resultTypes.all (fun tt => (Tryz.pinned.checked.prog).readableRec tt && decide (tt < (Tryz.pinned.checked.prog).types.size))) = true := by kernel_rfl
theorem jl20 : (((Rows.hashProgramsRow).ifacesOut == (Tryz.f3).resultTypes.toList.any ((Tryz.pinned.checked.prog).ifacesRec ·))) = true := by kernel_rfl
theorem jl21 : (((Rows.hashProgramsRow).loopsOut == (Tryz.f3).resultTypes.toList.any ((Tryz.pinned.checked.prog).loopsFrom ·))) = true := by kernel_rfl
theorem jl22 : (((Rows.hashProgramsRow).plainKeys == (Tryz.pinned.checked.prog).plainKeys)) = true := by kernel_rfl
theorem jl23 : ((Rows.hashProgramsRow).shortTexts.isNone) = true := by kernel_rfl
theorem jl24 : ((Tryz.pinned.checked.prog).stopsHeard) = true := by kernel_rfl
theorem jl25 : ((Tryz.pinned.checked.prog).mayEnter) = true := by kernel_rfl
theorem jl26 : (((Rows.hashProgramsRow).lifted == (Tryz.pinned.checked.prog).liftsFinal)) = true := by kernel_rfl
theorem jl27 : (((Tryz.pinned.checked.prog).make == some (Rows.hashProgramsRow).make)) = true := by kernel_rfl
theorem jl28 : (((Rows.hashProgramsRow).kinds == (if (Rows.hashProgramsRow).domain.isEmpty then [] else (Tryz.f3).params.toList.map fun tt => match (Tryz.pinned.checked.prog).underlying tt with | some (.int k) => some k | _ => none))) = true := by kernel_rfl
theorem jl29 : (((Rows.hashProgramsRow).pinned == (Rows.hashProgramsRow).pinnedBy)) = true := by kernel_rfl
theorem jl30 : (((Rows.hashProgramsRow).veiled == ((Tryz.f3).params.toList ++ (Rows.hashProgramsSpec).plain.varTypes (Tryz.pinned.checked.prog) ++ (Tryz.f3).resultTypes.toList).any ((Tryz.pinned.checked.prog).veiledRec ·))) = true := by kernel_rfl
theorem jl31 : ((Rows.hashProgramsRow).veiledFits (Tryz.pinned.checked.prog) (Tryz.f3).params.toList ((Tryz.f3).params.toList ++ (Rows.hashProgramsSpec).plain.varTypes (Tryz.pinned.checked.prog) ++ (Tryz.f3).resultTypes.toList)) = true := by kernel_rfl
theorem ZwK : joinedFacts Tryz.pinned.checked.prog 3 Tryz.f3 Rows.hashProgramsSpec Rows.hashProgramsRow = true := (Zcm (Zcm (Zcm (Zcm (Zcm (Zcm (Zcm (Zcm (Zcm (Zcm (Zcm (Zcm (Zcm (Zcm (Zcm (Zcm (Zcm (Zcm (Zcm (Zcm (Zcm (Zcm (Zcm (Zcm (Zcm (Zcm (Zcm (Zcm (Zcm (Zcm (Zcm jl0 jl1) jl2) jl3) jl4) jl5) jl6) jl7) jl8) jl9) jl10) jl11) jl12) jl13) jl14) jl15) jl16) jl17) jl18) jl19) jl20) jl21) jl22) jl23) jl24) jl25) jl26) jl27) jl28) jl29) jl30) jl31)
end HashPrograms
end Ev
end Go.Proofs.YtaajdoclloamlaaGreat
/- The runner, with places to stop at: where a way on of a given depth begins, so many of them left out. -/
namespace Go.Proofs.YtaajdoclloamlaaGreat
open Go.RowKit
namespace Ev
inductive StopC where
 | fin (v : Value) (s : St)
 | head (a : Code) (K : List ZeK) (T : Tr Value) (s : St)
 | next (i : Nat) (T : Tr Value) (s : St)
 | cut (b : Code) (K : List ZeK) (T : Tr Value) (s : St)
noncomputable section
def StopC.s : StopC → St
 | .fin _ s => s
 | .head _ _ _ s => s
 | .next _ _ s => s
 | .cut _ _ _ s => s
def ZuM (s : St) : Option Value → Option StopC
 | some v => some (.fin v s)
 | none => none
def ZwL (P : Program) (fn : Func) (e : Ex) (T : Tr Value) (s : St) : Option StopC :=
 match e with
 | .exit _ => none
 | .normal => ZuM s (Zwe P fn T s)
 | .ret => ZuM s (Zwe P fn T s)
mutual
def Zfn (P : Program) (ext : FuncId → Option Ext) (fn : Func) (nt : Nat) (cd : Nat) : Nat → Nat → Code → List ZeK → Tr Value → St → Option StopC
 | 0, _, _, _, _, _ => none
 | fu + 1, cm, c, K, T, s => match c with
  | .seq a b => Zfn P ext fn nt cd fu cm a (.seq b :: K) T s
  | .scope a => Zfn P ext fn nt cd fu cm a (.scp :: K) T s
  | .block id a => Zfn P ext fn nt cd fu cm a (.blk id :: K) T s
  | .cond x a b => match opnd T x with
   | .bool t => match t with
    | true => Zfn P ext fn nt cd fu cm a K T s
    | false => Zfn P ext fn nt cd fu cm b K T s
   | _ => none
  | .loop a => some (.head a K T s)
  | c => match Zav P ext nt fu c T s with
   | some (e, T', s') => ZcM P ext fn nt cd fu cm K e T' s'
   | none => none
termination_by structural fu _ _ _ _ _ => fu
def ZcM (P : Program) (ext : FuncId → Option Ext) (fn : Func) (nt : Nat) (cd : Nat) : Nat → Nat → List ZeK → Ex → Tr Value → St → Option StopC
 | 0, _, _, _, _, _ => none
 | fu + 1, cm, K, e, T, s => match K with
  | [] => ZwL P fn e T s
  | .seq b :: K => match e with
   | .normal => match Nat.beq K.length cd with
    | false => Zfn P ext fn nt cd fu cm b K T s
    | true => match cm with
     | 0 => some (.cut b K T s)
     | m + 1 => Zfn P ext fn nt cd fu m b K T s
   | .exit i => ZcM P ext fn nt cd fu cm K (.exit i) T s
   | .ret => ZcM P ext fn nt cd fu cm K .ret T s
  | .blk id :: K => match e with
   | .exit i => bif Nat.beq i id then ZcM P ext fn nt cd fu cm K .normal T s else ZcM P ext fn nt cd fu cm K (.exit i) T s
   | .normal => ZcM P ext fn nt cd fu cm K .normal T s
   | .ret => ZcM P ext fn nt cd fu cm K .ret T s
  | .scp :: K => ZcM P ext fn nt cd fu cm K e T s
  | .rnd i :: K => match e with
   | .normal => some (.next i T s)
   | .exit j => ZcM P ext fn nt cd fu cm K (.exit j) T s
   | .ret => ZcM P ext fn nt cd fu cm K .ret T s
termination_by structural fu _ _ _ _ _ => fu
end
end
section
variable {P : Program} {ext : FuncId → Option Ext}
theorem ZuN {s : St} {o : Option Value} {st : StopC} (h : ZuM s o = some st) : ∃ v, st = .fin v s ∧ o = some v := by
 cases o with
 | none => cases h
 | some v => injection h with h; exact ⟨v, h.symm, rfl⟩
theorem ZuO {fn : Func} {e : Ex} {T : Tr Value} {s : St} {st : StopC} (h : ZwL P fn e T s = some st) : ∃ v, st = .fin v s ∧ (match e with | .exit _ => False | _ => True) ∧ (match ZbO P T s fn.results.toList with | some [v] => some v | some vs => some (.tuple vs.toArray) | none => none) = some v := by
 cases e with
 | exit i => cases h
 | normal => obtain ⟨v, h1, h2⟩ := ZuN h; exact ⟨v, h1, trivial, h2⟩
 | ret => obtain ⟨v, h1, h2⟩ := ZuN h; exact ⟨v, h1, trivial, h2⟩
theorem Zyc (F : Fit P ext) {fn : Func} {nt cd : Nat} : ∀ fu : Nat, (∀ cm c K T s st, Zfn P ext fn nt cd fu cm c K T s = some st → Up s st.s) ∧ (∀ cm K e T s st, ZcM P ext fn nt cd fu cm K e T s = some st → Up s st.s) := by
 intro fu
 induction fu with
 | zero => exact ⟨fun _ _ _ _ _ _ h => by simp [Zfn] at h, fun _ _ _ _ _ _ h => by simp [ZcM] at h⟩
 | succ fu ih =>
  obtain ⟨ihT, ihB⟩ := ih
  have other : ∀ cm c K T s st, (match Zav P ext nt fu c T s with | some (e, T', s') => ZcM P ext fn nt cd fu cm K e T' s' | none => none) = some st → Up s st.s := fun cm c K T s st h => by
   split at h
   ·exact ((Ze1 (P := P) (ext := ext) (fun f g hg => (F.hp f g hg).up) fu).1 _ _ _ _ _ _ _ (by assumption)).trans (ihB _ _ _ _ _ _ h)
   ·cases h
  refine ⟨fun cm c K T s st h => ?_, fun cm K e T s st h => ?_⟩
  ·cases c <;> simp only [Zfn] at h
   case seq a b => exact ihT _ _ _ _ _ _ h
   case scope a => exact ihT _ _ _ _ _ _ h
   case block id a => exact ihT _ _ _ _ _ _ h
   case cond x a b =>
    split at h
    ·split at h
     ·exact ihT _ _ _ _ _ _ h
     ·exact ihT _ _ _ _ _ _ h
    ·cases h
   case loop a => injection h with h; subst h; exact Up.refl _
   all_goals exact other _ _ _ _ _ _ h
  ·cases K with
   | nil => simp only [ZcM] at h; obtain ⟨v, rfl, _⟩ := ZuO h; exact Up.refl _
   | cons k K =>
    cases k <;> simp only [ZcM] at h
    ·cases e <;> simp only at h
     ·split at h
      ·exact ihT _ _ _ _ _ _ h
      ·split at h
       ·injection h with h; subst h; exact Up.refl _
       ·exact ihT _ _ _ _ _ _ h
     ·exact ihB _ _ _ _ _ _ h
     ·exact ihB _ _ _ _ _ _ h
    ·cases e <;> simp only at h
     ·exact ihB _ _ _ _ _ _ h
     ·rename_i id i
      cases hb : Nat.beq i id <;> rw [hb] at h <;> exact ihB _ _ _ _ _ _ h
     ·exact ihB _ _ _ _ _ _ h
    ·exact ihB _ _ _ _ _ _ h
    ·cases e <;> simp only at h
     ·injection h with h; subst h; exact Up.refl _
     ·exact ihB _ _ _ _ _ _ h
     ·exact ihB _ _ _ _ _ _ h
def Zqz (P : Program) (fn : Func) (R : Ending → World → Prop) (Nx : Nat → Act → World → Prop) (nt : Nat) (ι : Ren) (a : Act) (w : World) : StopC → Prop
 | .fin v _ => ∀ v', VR ι v v' → R (.returned v') w
 | .head b K T _ => TR ι nt [] T a → (Code.loop b).wp P (post P fn R Nx K) a w
 | .next i T _ => TR ι nt [] T a → Nx i a w
 | .cut b K T _ => TR ι nt [] T a → b.wp P (post P fn R Nx K) a w
theorem ZtO (F : Fit P ext) {fn : Func} {nt cd : Nat} {R : Ending → World → Prop} {Nx : Nat → Act → World → Prop} : ∀ fu : Nat,
  (∀ cm c K T s st, Zfn P ext fn nt cd fu cm c K T s = some st → (∀ p ∈ st.s.ob, p.1 = p.2) → ∀ ι a w, TR ι nt [] T a → Emb P ι s.h.get w → Fresh ι s.n st.s.n →
   (∀ ι' a' w', Step P ι s.h.get w ι' st.s.h.get w' → Dom ι ι' s.n st.s.n → Zqz P fn R Nx nt ι' a' w' st) → c.wp P (post P fn R Nx K) a w) ∧
  (∀ cm K e T s st, ZcM P ext fn nt cd fu cm K e T s = some st → (∀ p ∈ st.s.ob, p.1 = p.2) → ∀ ι a w, TR ι nt [] T a → Emb P ι s.h.get w → Fresh ι s.n st.s.n →
   (∀ ι' a' w', Step P ι s.h.get w ι' st.s.h.get w' → Dom ι ι' s.n st.s.n → Zqz P fn R Nx nt ι' a' w' st) → post P fn R Nx K e.out a w) := by
 intro fu
 induction fu with
 | zero => exact ⟨fun _ _ _ _ _ _ h => by simp [Zfn] at h, fun _ _ _ _ _ _ h => by simp [ZcM] at h⟩
 | succ fu ih =>
  obtain ⟨ihT, ihB⟩ := ih
  have other : ∀ cm c K T s st, (match Zav P ext nt fu c T s with | some (e, T', s') => ZcM P ext fn nt cd fu cm K e T' s' | none => none) = some st → (∀ p ∈ st.s.ob, p.1 = p.2) → ∀ ι a w, TR ι nt [] T a → Emb P ι s.h.get w → Fresh ι s.n st.s.n →
   (∀ ι' a' w', Step P ι s.h.get w ι' st.s.h.get w' → Dom ι ι' s.n st.s.n → Zqz P fn R Nx nt ι' a' w' st) → c.wp P (post P fn R Nx K) a w := fun cm c K T s st h ho ι a w hT he hf hQ => by
   split at h
   ·rename_i e T1 s1 h1
    have u1 := (Ze1 (P := P) (ext := ext) (fun f g hg => (F.hp f g hg).up) fu).1 _ _ _ _ _ _ _ h1
    have u2 := (Zyc F (fn := fn) (nt := nt) fu).2 _ _ _ _ _ _ h
    refine wp_mono (ev_wp F h1 (Zbm u2.ob ho) hT he (hf.mono (Nat.le_refl _) u2.n)) ?_
    rintro ex a1 w1 ⟨rfl, ι1, g1, g2, g3⟩
    exact ihB _ K e T1 s1 st h ho ι1 a1 w1 g3 g1.emb (hf.after g2 u1.n) fun ι' a' w' k1 k2 => hQ ι' a' w' (g1.trans k1) (g2.trans k2 u1.n u2.n)
   ·cases h
  refine ⟨fun cm c K T s st h ho ι a w hT he hf hQ => ?_, fun cm K e T s st h ho ι a w hT he hf hQ => ?_⟩
  ·have h0 := h
   cases c <;> simp only [Zfn] at h
   case seq x y => exact wp_seq (ihT _ x (.seq y :: K) T s st h ho ι a w hT he hf hQ)
   case scope x => exact wp_scope_straight (ihT _ x (.scp :: K) T s st h ho ι a w hT he hf hQ)
   case block id x => exact wp_block (ihT _ x (.blk id :: K) T s st h ho ι a w hT he hf hQ)
   case cond x y z =>
    split at h
    ·rename_i t ht
     have hx : a.eval x = .bool t := ZgJ ((ht ▸ hT.opnd x : VR ι (.bool t) (ZcJ a x)).bool_inv)
     split at h
     ·exact wp_cond_true hx (ihT _ y K T s st h ho ι a w hT he hf hQ)
     ·exact wp_cond_false hx (ihT _ z K T s st h ho ι a w hT he hf hQ)
    ·cases h
   case loop x =>
    injection h with h
    subst h
    exact hQ ι a w (Step.refl he) Dom.refl hT
   all_goals exact other _ _ K T s st h ho ι a w hT he hf hQ
  ·cases K with
   | nil =>
    simp only [ZcM] at h
    obtain ⟨v, rfl, hne, hr⟩ := ZuO h
    obtain ⟨v', hrun, hv⟩ := Zfx hT he hr
    have := hQ ι a w (Step.refl he) Dom.refl v' hv
    cases e with
    | normal => exact ⟨hT.2.1, v', hrun, this⟩
    | ret => exact ⟨hT.2.1, v', hrun, this⟩
    | exit i => exact hne.elim
   | cons k K =>
    cases k with
    | seq b =>
     simp only [ZcM] at h
     cases e with
     | normal =>
      simp only at h
      split at h
      ·exact ihT _ b K T s st h ho ι a w hT he hf hQ
      ·split at h
       ·injection h with h
        subst h
        exact hQ ι a w (Step.refl he) Dom.refl hT
       ·exact ihT _ b K T s st h ho ι a w hT he hf hQ
     | exit i => exact ihB _ K (.exit i) T s st h ho ι a w hT he hf hQ
     | ret => exact ihB _ K .ret T s st h ho ι a w hT he hf hQ
    | blk id =>
     simp only [ZcM] at h
     cases e with
     | normal => exact ihB _ K .normal T s st h ho ι a w hT he hf hQ
     | ret => exact ihB _ K .ret T s st h ho ι a w hT he hf hQ
     | exit i =>
      simp only at h
      show if i = id then _ else _
      cases hb : Nat.beq i id with
      | true =>
       rw [hb] at h
       rw [if_pos (Nat.eq_of_beq_eq_true hb)]
       exact ihB _ K .normal T s st h ho ι a w hT he hf hQ
      | false =>
       rw [hb] at h
       rw [if_neg (fun e => by rw [Zkk e] at hb; cases hb)]
       exact ihB _ K (.exit i) T s st h ho ι a w hT he hf hQ
    | scp =>
     simp only [ZcM] at h
     have := ihB _ K e T s st h ho ι a w hT he hf hQ
     cases e <;> exact this
    | rnd i =>
     simp only [ZcM] at h
     cases e with
     | normal =>
      injection h with h
      subst h
      exact hQ ι a w (Step.refl he) Dom.refl hT
     | exit j => exact ihB _ K (.exit j) T s st h ho ι a w hT he hf hQ
     | ret => exact ihB _ K .ret T s st h ho ι a w hT he hf hQ
end
noncomputable section
def Zt0 (live : List Nat) (r : Option StopC) : Option (Value × List (Option AObj) × List (Bool × Bool)) :=
 match r with
 | some (.fin u s) => bif Nat.ble s.n 1000000000 then some (u, live.map s.h.get, s.ob) else none
 | _ => none
def Zsi (i : Nat) (live temps : List Nat) (r : Option StopC) : Option (List (Option Value) × List (Option AObj) × List (Bool × Bool)) :=
 match r with
 | some (.next j T s) => bif Nat.beq j i && Nat.ble s.n 1000000000 then some (temps.map T.get, live.map s.h.get, s.ob) else none
 | _ => none
def Zsj (live temps : List Nat) (r : Option StopC) : Option ((Code × List ZeK) × List (Option Value) × List (Option AObj) × List (Bool × Bool)) :=
 match r with
 | some (.head b K T s) => bif Nat.ble s.n 1000000000 then some ((b, K), temps.map T.get, live.map s.h.get, s.ob) else none
 | _ => none
end
theorem ZuP {live : List Nat} {r : Option StopC} {u : Value} {bl : List (Option AObj)} {ob : List (Bool × Bool)} (h : Zt0 live r = some (u, bl, ob)) : ∃ s, r = some (.fin u s) ∧ live.map s.h.get = bl ∧ s.ob = ob ∧ s.n ≤ far := by
 unfold Zt0 at h
 split at h
 ·rename_i u' s
  obtain ⟨hn, h⟩ := Zo h
  injection h with h
  simp only [Prod.mk.injEq] at h
  obtain ⟨rfl, rfl, rfl⟩ := h
  exact ⟨s, rfl, rfl, rfl, Nat.le_of_ble_eq_true hn⟩
 ·cases h
theorem ZtX {i : Nat} {live temps : List Nat} {r : Option StopC} {tv : List (Option Value)} {bl : List (Option AObj)} {ob : List (Bool × Bool)} (h : Zsi i live temps r = some (tv, bl, ob)) : ∃ T s, r = some (.next i T s) ∧ temps.map T.get = tv ∧ live.map s.h.get = bl ∧ s.ob = ob ∧ s.n ≤ far := by
 unfold Zsi at h
 split at h
 ·rename_i j T s
  obtain ⟨hn, h⟩ := Zo h
  simp only [Bool.and_eq_true] at hn
  injection h with h
  simp only [Prod.mk.injEq] at h
  obtain ⟨rfl, rfl, rfl⟩ := h
  exact ⟨T, s, by rw [Nat.eq_of_beq_eq_true hn.1], rfl, rfl, rfl, Nat.le_of_ble_eq_true hn.2⟩
 ·cases h
theorem ZtY {live temps : List Nat} {r : Option StopC} {bK : Code × List ZeK} {tv : List (Option Value)} {bl : List (Option AObj)} {ob : List (Bool × Bool)} (h : Zsj live temps r = some (bK, tv, bl, ob)) : ∃ T s, r = some (.head bK.1 bK.2 T s) ∧ temps.map T.get = tv ∧ live.map s.h.get = bl ∧ s.ob = ob ∧ s.n ≤ far := by
 unfold Zsj at h
 split at h
 ·rename_i b K T s
  obtain ⟨hn, h⟩ := Zo h
  injection h with h
  simp only [Prod.mk.injEq] at h
  obtain ⟨rfl, rfl, rfl, rfl⟩ := h
  exact ⟨T, s, rfl, rfl, rfl, rfl, Nat.le_of_ble_eq_true hn⟩
 ·cases h
section
variable {P : Program} {ext : FuncId → Option Ext}
theorem ZwM (F : Fit P ext) {f : FuncId} {fn : Func} {c : Code} (hfn : P.funcs[f]? = some fn) (hb : fn.body = some c) {A : Array Value} {pre : List AObj} {v : Value} {post : List (Option AObj)} (hA : Nat.ble A.size fn.ntmps = true) {fu : Nat} {orc : Orc} {cd cm : Nat} {st : StopC}
  (hev : Zfn P ext fn fn.ntmps cd fu cm c [] (ZgG 0 A.toList .nil) ⟨Zix 0 pre, pre.length, [], orc, []⟩ = some st) (ho : ∀ p ∈ st.s.ob, p.1 = p.2) (hn : st.s.n ≤ far)
  (hto : ∀ ι0 w0, (∀ k, ι0 k ≠ none → k < pre.length) → ∀ ι' a' w', Step P ι0 (lk pre) w0 ι' st.s.h.get w' → Zqz P fn (Fin P ι0 pre w0 v post) (fun _ _ _ => False) fn.ntmps ι' a' w' st) : LSpec P f A pre v post := by
 intro ι w args' hd ha he
 refine calls_of_wp hfn hb ?_
 have := (ZtO F (R := Fin P ι pre w v post) (Nx := fun _ _ _ => False) fu).1 cm c [] _ _ st hev ho ι _ w (ZkM ha (Nat.le_of_ble_eq_true hA)) (by show Emb P ι (Zix 0 pre).get w; rw [Zo8]; exact he)
  ⟨hn, fun k h1 _ => by
   cases hk : ι k with
   | none => rfl
   | some b => exact absurd (hd k (by rw [hk]; simp)) (by have : pre.length ≤ k := h1; omega)⟩
  (fun ι' a' w' g1 _ => hto ι w hd ι' a' w' (by have := g1; simp only [Zo8] at this; exact this))
 exact this
end
end Ev
end Go.Proofs.YtaajdoclloamlaaGreat
/- Functions of loops as machines: states at loops' heads, and a step from each to the next one. -/
namespace Go.Proofs.YtaajdoclloamlaaGreat
open Go.RowKit
namespace Ev
def ZJ : List ZeK → List Nat
 | [] => []
 | .rnd i :: K => i :: ZJ K
 | .seq _ :: K => ZJ K
 | .blk _ :: K => ZJ K
 | .scp :: K => ZJ K
def ZoD {X R : Type} (step : X → Option (X ⊕ R)) : Nat → X → Option R
 | 0, _ => none
 | n + 1, x => match step x with
  | none => none
  | some (.inl y) => ZoD step n y
  | some (.inr r) => some r
def goM {X R : Type} (step : X → Option (X ⊕ R)) (n : Nat) (o : Option (X ⊕ R)) : Option R :=
 match o with
 | none => none
 | some (.inl y) => ZoD step n y
 | some (.inr r) => some r
theorem Zh (n : Nat) (h : Nat.ble n 1000000000 = true) : n ≤ far := Nat.le_of_ble_eq_true h
theorem ZtP {P : Program} {c : Code} {Q : Exit → Act → World → Prop} : ∀ (n m : Nat), n ≤ m → ∀ a w, Code.rounds P c Q n a w → Code.rounds P c Q m a w
 | 0, _, _, _, _, h => h.elim
 | n + 1, 0, hm, _, _, _ => by omega
 | n + 1, m + 1, hm, a, w, h => by
  rw [rounds_succ] at h ⊢
  refine wp_mono h ?_
  intro e a' w' h'
  cases e with
  | normal => exact ZtP n m (by omega) a' w' h'
  | exit i => exact h'
  | goto l => exact h'
  | ret => exact h'
  | panic ch => exact h'
  | outgrown => exact h'
theorem Zhs {P : Program} {fn : Func} {R : Ending → World → Prop} {Nx Nx' : Nat → Act → World → Prop} : ∀ {K : List ZeK}, (∀ j ∈ ZJ K, Nx' j = Nx j) → post P fn R Nx' K = post P fn R Nx K
 | [], _ => rfl
 | .seq b :: K, h => by simp only [post]; rw [Zhs (K := K) h]
 | .blk id :: K, h => by simp only [post]; rw [Zhs (K := K) h]
 | .scp :: K, h => by simp only [post]; rw [Zhs (K := K) h]
 | .rnd j :: K, h => by
  simp only [post]
  rw [Zhs (K := K) fun j hj => h j (List.mem_cons_of_mem _ hj), h j (List.mem_cons_self ..)]
noncomputable def Zjo : Nat → List (Option AObj) → Tr AObj
 | _, [] => .nil
 | i, none :: l => Zjo (i + 1) l
 | i, some o :: l => (Zjo (i + 1) l).set i (some o)
theorem Zq0 : ∀ (l : List (Option AObj)) (i k : Nat), (Zjo i l).get k = if i ≤ k then (l[k - i]?).join else none
 | [], i, k => by
  show (Tr.nil : Tr AObj).get k = _
  rw [Tr.get_nil]
  split <;> simp
 | none :: l, i, k => by
  show (Zjo (i + 1) l).get k = _
  rw [Zq0 l (i + 1) k]
  by_cases h : i + 1 ≤ k
  ·rw [if_pos h, if_pos (by omega)]
   have : k - i = (k - (i + 1)) + 1 := by omega
   rw [this, List.getElem?_cons_succ]
  ·rw [if_neg h]
   by_cases hk : i ≤ k
   ·rw [if_pos hk, show k - i = 0 by omega]; rfl
   ·rw [if_neg hk]
 | some o :: l, i, k => by
  show ((Zjo (i + 1) l).set i (some o)).get k = _
  rw [Tr.get_set]
  by_cases hk : k = i
  ·subst hk; rw [Z6, if_pos (Nat.le_refl _)]; simp
  ·rw [Zm hk, Zq0 l (i + 1) k]
   by_cases h : i + 1 ≤ k
   ·rw [if_pos h, if_pos (by omega)]
    have : k - i = (k - (i + 1)) + 1 := by omega
    rw [this, List.getElem?_cons_succ]
   ·rw [if_neg h, if_neg (by omega)]
theorem Zxw (l : List (Option AObj)) : (Zjo 0 l).get = lkO l := funext fun k => by rw [Zq0]; simp [lkO]
theorem ZuQ {nt m : Nat} {lt : List (Nat × Value)} {H : List (Option AObj)} {T : Tr Value} {s : St} {live : List Nat} (hl : live.length = m) (hn : live.Nodup) (ht : ZnY (rho live far) ((lt.map (·.1)).map T.get) lt) (hb : Zgb (rho live far) (live.map s.h.get) H) : Zxo nt m (fun t => Zbb t lt) (Zjo 0 H) T s live := by
 refine ⟨hl, hn, fun t v _ h => ZuJ ht t v h, fun j o ho => ?_⟩
 rw [Zxw] at ho
 exact Zj1 hb j o ho
structure Mach where
 fn : Func
 pre : List AObj
 X : Type
 R : Type
 step : X → Option (X ⊕ R)
 hd : X → Nat
 code : Nat → Code × List ZeK
 isL : Nat → Bool
 L : X → List (Nat × Value)
 H : X → List (Option AObj)
 V : R → Value
 Po : R → List (Option AObj)
namespace Mach
def after (M : Mach) (n : Nat) : M.X ⊕ M.R → Option M.R
 | .inl y => ZoD M.step n y
 | .inr r => some r
def KK (M : Mach) (i : Nat) : List ZeK := match M.isL i with | true => .rnd i :: (M.code i).2 | false => (M.code i).2
def IntoM (M : Mach) (y : M.X) (T : Tr Value) (s : St) : Prop :=
 ∃ live, Zmx M.pre.length live = true ∧ Zxo M.fn.ntmps (M.H y).length (fun t => Zbb t (M.L y)) (Zjo 0 (M.H y)) T s live
def To (M : Mach) (K0 : List ZeK) : StopC → M.X ⊕ M.R → Prop
 | .fin u s, .inr r => ∃ live, Zwf M.pre.length (M.V r) (M.Po r) u s live
 | .next j T s, .inl y => j = M.hd y ∧ M.isL j = true ∧ j ∈ ZJ K0 ∧ M.IntoM y T s
 | .head b K T s, .inl y => M.isL (M.hd y) = true ∧ (b, K) = M.code (M.hd y) ∧ (∀ j ∈ ZJ K, j ∈ ZJ K0) ∧ M.IntoM y T s
 | .cut b K T s, .inl y => M.isL (M.hd y) = false ∧ (b, K) = M.code (M.hd y) ∧ (∀ j ∈ ZJ K, j ∈ ZJ K0) ∧ M.IntoM y T s
 | _, _ => False
noncomputable def Start (M : Mach) (x : M.X) (gv : Nat → Value) (P : Program) (ext : FuncId → Option Ext) (cd cm fu : Nat) (orc : Orc) : Option StopC :=
 Zfn P ext M.fn M.fn.ntmps cd fu cm (M.code (M.hd x)).1 (M.KK (M.hd x)) (tmps M.fn.ntmps (fun t => Zbb t (M.L x)) gv) ⟨Zjo 0 (M.H x), (M.H x).length, [], orc, []⟩
noncomputable def Ok (M : Mach) (P : Program) (ext : FuncId → Option Ext) (x : M.X) (o : Option (M.X ⊕ M.R)) : Prop :=
 ∀ y, o = some y → ∀ gv, ∃ cd cm fu orc st, M.Start x gv P ext cd cm fu orc = some st ∧ (∀ p ∈ st.s.ob, p.1 = p.2) ∧ st.s.n ≤ far ∧ M.To (M.KK (M.hd x)) st y
def AtM (M : Mach) (P : Program) (ι0 : Ren) (w0 : World) (y : M.X) (gv : Nat → Value) (a : Act) (w : World) : Prop :=
 At P M.fn.ntmps (tmps M.fn.ntmps (fun t => Zbb t (M.L y)) gv) (Zjo 0 (M.H y)).get (M.H y).length far ι0 (lk M.pre) w0 a w
section
variable {P : Program} {ext : FuncId → Option Ext}
def Good (M : Mach) (P : Program) (r : M.R) (ι0 : Ren) (w0 : World) (n : Nat) (x : M.X) (Nx : Nat → Act → World → Prop) (a : Act) (w : World) : Prop :=
 match M.isL (M.hd x) with
 | true => Code.rounds P (M.code (M.hd x)).1 (post P M.fn (Fin P ι0 M.pre w0 (M.V r) (M.Po r)) Nx (M.code (M.hd x)).2) n a w
 | false => (M.code (M.hd x)).1.wp P (post P M.fn (Fin P ι0 M.pre w0 (M.V r) (M.Po r)) Nx (M.code (M.hd x)).2) a w
def Outer (M : Mach) (P : Program) (r : M.R) (ι0 : Ren) (w0 : World) (n : Nat) (js : List Nat) (Nx : Nat → Act → World → Prop) : Prop :=
 ∀ m z, m < n → ZoD M.step m z = some r → M.isL (M.hd z) = true → M.hd z ∈ js → ∀ gv a w, M.AtM P ι0 w0 z gv a w → Nx (M.hd z) a w
theorem run1 (M : Mach) (hH : ∀ x, (M.H x).length ≤ far) (hPo : ∀ r, (M.Po r).length ≤ far) (r : M.R) {ι0 : Ren} {w0 : World} (hd0 : ∀ k, ι0 k ≠ none → k < M.pre.length) (n : Nat)
  (ih : ∀ m, m ≤ n → ∀ x, ZoD M.step m x = some r → ∀ Nx, M.Outer P r ι0 w0 m (ZJ (M.code (M.hd x)).2) Nx → ∀ gv a w, M.AtM P ι0 w0 x gv a w → M.Good P r ι0 w0 m x Nx a w)
  {K0 : List ZeK} {Nx : Nat → Act → World → Prop} (hNx : M.Outer P r ι0 w0 (n + 1) (ZJ K0) Nx) {st : StopC} {y : M.X ⊕ M.R} (hto : M.To K0 st y) (hy : M.after n y = some r)
  {ι : Ren} {a : Act} {w : World} (hS : Step P ι0 (lk M.pre) w0 ι st.s.h.get w) : Zqz P M.fn (Fin P ι0 M.pre w0 (M.V r) (M.Po r)) Nx M.fn.ntmps ι a w st := by
 have sub : ∀ {K : List ZeK}, (∀ j ∈ ZJ K, j ∈ ZJ K0) → M.Outer P r ι0 w0 n (ZJ K) Nx := fun {K} hs m z hm hz hl hj gv a w hat => hNx m z (by omega) hz hl (hs _ hj) gv a w hat
 cases st with
 | fin u s =>
  cases y with
  | inl y => exact hto.elim
  | inr r' =>
   obtain ⟨live, hto⟩ := hto
   obtain rfl : r' = r := Option.some.inj hy
   exact fun v' hv => ZwE (hPo r') hd0 hto hS hv
 | next j T s =>
  cases y with
  | inr r' => exact hto.elim
  | inl y =>
   obtain ⟨rfl, hl, hj, live, hk, hi⟩ := hto
   intro hT
   obtain ⟨gv, hat⟩ := Ztu (hH y) hi hk hd0 hT hS
   exact hNx n y (by omega) hy hl hj gv a w hat
 | head b K T s =>
  cases y with
  | inr r' => exact hto.elim
  | inl y =>
   obtain ⟨hl, hc, hsub, live, hk, hi⟩ := hto
   intro hT
   obtain ⟨gv, hat⟩ := Ztu (hH y) hi hk hd0 hT hS
   have e1 : b = (M.code (M.hd y)).1 := congrArg Prod.fst hc
   have e2 : K = (M.code (M.hd y)).2 := congrArg Prod.snd hc
   subst e1 e2
   have := ih n (Nat.le_refl _) y hy Nx (sub hsub) gv a w hat
   unfold Good at this
   rw [hl] at this
   exact wp_loop_rounds n this
 | cut b K T s =>
  cases y with
  | inr r' => exact hto.elim
  | inl y =>
   obtain ⟨hl, hc, hsub, live, hk, hi⟩ := hto
   intro hT
   obtain ⟨gv, hat⟩ := Ztu (hH y) hi hk hd0 hT hS
   have e1 : b = (M.code (M.hd y)).1 := congrArg Prod.fst hc
   have e2 : K = (M.code (M.hd y)).2 := congrArg Prod.snd hc
   subst e1 e2
   have := ih n (Nat.le_refl _) y hy Nx (sub hsub) gv a w hat
   unfold Good at this
   rw [hl] at this
   exact this
theorem rounds (F : Fit P ext) (M : Mach) (hH : ∀ x, (M.H x).length ≤ far) (hPo : ∀ r, (M.Po r).length ≤ far) (hK : ∀ x, M.isL (M.hd x) = true → M.hd x ∉ ZJ (M.code (M.hd x)).2) (ok : ∀ x, M.Ok P ext x (M.step x)) (r : M.R) {ι0 : Ren} {w0 : World} (hd0 : ∀ k, ι0 k ≠ none → k < M.pre.length) :
  ∀ (n : Nat) (x : M.X), ZoD M.step n x = some r → ∀ Nx, M.Outer P r ι0 w0 n (ZJ (M.code (M.hd x)).2) Nx → ∀ gv a w, M.AtM P ι0 w0 x gv a w → M.Good P r ι0 w0 n x Nx a w := by
 intro n
 induction n using Nat.strongRecOn with
 | ind n ih =>
  intro x hx Nx hNx gv a w hat
  cases n with
  | zero => cases hx
  | succ n =>
   have hat0 := hat
   obtain ⟨ι, hT, hS, hfr⟩ := hat
   cases hy : M.step x with
   | none => simp only [ZoD, hy] at hx; cases hx
   | some y =>
    obtain ⟨cd, cm, fu, orc, st, hev, ho, hn, hto⟩ := ok x y hy gv
    have hyr : M.after n y = some r := by
     cases y <;> (simp only [ZoD, hy] at hx; exact hx)
    have fresh : Fresh ι (M.H x).length st.s.n := ⟨hn, fun k h1 h2 => hfr k h1 (Nat.lt_of_lt_of_le h2 hn)⟩
    have ih' : ∀ m, m ≤ n → ∀ x, ZoD M.step m x = some r → ∀ Nx, M.Outer P r ι0 w0 m (ZJ (M.code (M.hd x)).2) Nx → ∀ gv a w, M.AtM P ι0 w0 x gv a w → M.Good P r ι0 w0 m x Nx a w := fun m hm => ih m (by omega)
    have go : ∀ Nx', M.Outer P r ι0 w0 (n + 1) (ZJ (M.KK (M.hd x))) Nx' → (M.code (M.hd x)).1.wp P (post P M.fn (Fin P ι0 M.pre w0 (M.V r) (M.Po r)) Nx' (M.KK (M.hd x))) a w := fun Nx' hNx' =>
     (ZtO F (R := Fin P ι0 M.pre w0 (M.V r) (M.Po r)) (Nx := Nx') fu).1 cm _ _ _ _ st hev ho ι a w hT hS.emb fresh fun ι' a' w' g1 _ => run1 M hH hPo r hd0 n ih' hNx' hto hyr (hS.trans g1)
    unfold Good
    cases hl : M.isL (M.hd x) with
    | false =>
     have e : M.KK (M.hd x) = (M.code (M.hd x)).2 := by unfold KK; rw [hl]
     rw [e] at go
     exact go Nx hNx
    | true =>
     have e : M.KK (M.hd x) = .rnd (M.hd x) :: (M.code (M.hd x)).2 := by unfold KK; rw [hl]
     rw [e] at go
     show Code.rounds P _ _ (n + 1) a w
     rw [rounds_succ]
     let Nx' : Nat → Act → World → Prop := fun j => if j = M.hd x then Code.rounds P (M.code (M.hd x)).1 (post P M.fn (Fin P ι0 M.pre w0 (M.V r) (M.Po r)) Nx (M.code (M.hd x)).2) n else Nx j
     have n1 : Nx' (M.hd x) = Code.rounds P (M.code (M.hd x)).1 (post P M.fn (Fin P ι0 M.pre w0 (M.V r) (M.Po r)) Nx (M.code (M.hd x)).2) n := if_pos rfl
     have n2 : ∀ j, j ≠ M.hd x → Nx' j = Nx j := fun j hj => if_neg hj
     have hp : post P M.fn (Fin P ι0 M.pre w0 (M.V r) (M.Po r)) Nx' (M.code (M.hd x)).2 = post P M.fn (Fin P ι0 M.pre w0 (M.V r) (M.Po r)) Nx (M.code (M.hd x)).2 := Zhs fun j hj => n2 j fun e => by subst e; exact hK x hl hj
     have := go Nx' fun m z hm hz hlz hj gv a w hat => by
      by_cases hzx : M.hd z = M.hd x
      ·rw [hzx, n1]
       have := ih m (by omega) z hz Nx (fun m' z' h1 h2 h3 h4 => hNx m' z' (by omega) h2 h3 (by rw [hzx] at h4; exact h4)) gv a w hat
       unfold Good at this
       rw [hlz] at this
       rw [hzx] at this
       exact ZtP m n (by omega) a w this
      ·rw [n2 _ hzx]
       rcases List.mem_cons.1 hj with h | h
       ·exact absurd h hzx
       ·exact hNx m z (by omega) hz hlz h gv a w hat
     simp only [post, hp, n1] at this
     exact this
noncomputable def Enter (M : Mach) (P : Program) (ext : FuncId → Option Ext) (A : Array Value) (o : Option (M.X ⊕ M.R)) : Prop :=
 ∀ y, o = some y → ∃ cd cm fu orc st, Zfn P ext M.fn M.fn.ntmps cd fu cm (Zuh M.fn) [] (ZgG 0 A.toList .nil) ⟨Zix 0 M.pre, M.pre.length, [], orc, []⟩ = some st ∧ (∀ p ∈ st.s.ob, p.1 = p.2) ∧ st.s.n ≤ far ∧ M.To [] st y
theorem spec (F : Fit P ext) (M : Mach) {f : FuncId} (hfn : P.funcs[f]? = some M.fn) (hb : M.fn.body = some (Zuh M.fn)) {A : Array Value} (hA : Nat.ble A.size M.fn.ntmps = true) (hH : ∀ x, (M.H x).length ≤ far) (hPo : ∀ r, (M.Po r).length ≤ far) (hK : ∀ x, M.isL (M.hd x) = true → M.hd x ∉ ZJ (M.code (M.hd x)).2)
  (ok : ∀ x, M.Ok P ext x (M.step x)) {o : Option (M.X ⊕ M.R)} (en : M.Enter P ext A o) {n : Nat} {r : M.R} (h : goM M.step n o = some r) : LSpec P f A M.pre (M.V r) (M.Po r) := by
 cases o with
 | none => cases h
 | some y =>
  obtain ⟨cd, cm, fu, orc, st, hev, ho, hn, hto⟩ := en y rfl
  refine ZwM F hfn hb hA hev ho hn fun ι0 w0 hd ι' a' w' hS => ?_
  exact run1 M hH hPo r hd n (fun m _ => rounds F M hH hPo hK ok r hd m) (K0 := []) (fun m z _ _ _ hj => by cases hj) hto (by cases y <;> exact h) hS
end
/-! ### How leaves are written -/
section
variable {P : Program} {ext : FuncId → Option Ext} {M : Mach} {x : M.X} {cd cm fu : Nat} {orc : Orc} {live : List Nat} {bl : List (Option AObj)} {ob : List (Bool × Bool)}
theorem ok_fin {r : M.R} {u : Value} (hev : ∀ gv, Zt0 live (M.Start x gv P ext cd cm fu orc) = some (u, bl, ob)) (ho : ∀ p ∈ ob, p.1 = p.2) (hl : live.length = (M.Po r).length) (hn : live.Nodup) (hk : Zmx M.pre.length live = true) (hv : M.V r = Zb4 (rho live far) 3 u ∧ Zbi 3 u = true) (hbl : Zgb (rho live far) bl (M.Po r)) : M.Ok P ext x (some (.inr r)) := by
 intro y hy gv
 obtain rfl := Option.some.inj hy
 obtain ⟨s, h1, rfl, rfl, h4⟩ := ZuP (hev gv)
 exact ⟨cd, cm, fu, orc, _, h1, ho, h4, live, hl, hn, hk, hv, Zj1 hbl⟩
theorem ok_next {y : M.X} {tv : (Nat → Value) → List (Option Value)} (hL : M.isL (M.hd y) = true) (hr : M.hd y ∈ ZJ (M.KK (M.hd x))) (hev : ∀ gv, Zsi (M.hd y) live ((M.L y).map (·.1)) (M.Start x gv P ext cd cm fu orc) = some (tv gv, bl, ob)) (ho : ∀ p ∈ ob, p.1 = p.2) (hl : live.length = (M.H y).length) (hn : live.Nodup) (hk : Zmx M.pre.length live = true) (ht : ∀ gv, ZnY (rho live far) (tv gv) (M.L y)) (hbl : Zgb (rho live far) bl (M.H y)) : M.Ok P ext x (some (.inl y)) := by
 intro y' hy gv
 obtain rfl := Option.some.inj hy
 obtain ⟨T, s, h1, h2, rfl, rfl, h4⟩ := ZtX (hev gv)
 exact ⟨cd, cm, fu, orc, _, h1, ho, h4, rfl, hL, hr, live, hk, ZuQ hl hn (h2 ▸ ht gv) hbl⟩
variable {A : Array Value}
noncomputable def startE (M : Mach) (P : Program) (ext : FuncId → Option Ext) (A : Array Value) (cd cm fu : Nat) (orc : Orc) : Option StopC :=
 Zfn P ext M.fn M.fn.ntmps cd fu cm (Zuh M.fn) [] (ZgG 0 A.toList .nil) ⟨Zix 0 M.pre, M.pre.length, [], orc, []⟩
theorem en_head {y : M.X} {tv : List (Option Value)} {bK : Code × List ZeK} (hL : M.isL (M.hd y) = true) (hr : bK = M.code (M.hd y)) (hsub : ZJ (M.code (M.hd y)).2 = []) (hev : Zsj live ((M.L y).map (·.1)) (M.startE P ext A cd cm fu orc) = some (bK, tv, bl, ob)) (ho : ∀ p ∈ ob, p.1 = p.2) (hl : live.length = (M.H y).length) (hn : live.Nodup) (hk : Zmx M.pre.length live = true) (ht : ZnY (rho live far) tv (M.L y)) (hbl : Zgb (rho live far) bl (M.H y)) : M.Enter P ext A (some (.inl y)) := by
 intro y' hy
 obtain rfl := Option.some.inj hy
 obtain ⟨T, s, h1, rfl, rfl, rfl, h4⟩ := ZtY hev
 exact ⟨cd, cm, fu, orc, _, h1, ho, h4, hL, hr, (fun j hj => by rw [show bK.2 = (M.code (M.hd y)).2 from congrArg Prod.snd hr, hsub] at hj; cases hj), live, hk, ZuQ hl hn ht hbl⟩
end
end Mach
/-! ### Functions without loops -/
section
variable {P : Program} {ext : FuncId → Option Ext} {fn : Func} {pre : List AObj} {A : Array Value} {R : Type} {V : R → Value} {Po : R → List (Option AObj)} {live : List Nat} {bl : List (Option AObj)} {ob : List (Bool × Bool)} {fu : Nat} {orc : Orc}
end
theorem Zn {P : Program} {f : FuncId} {A A' : Array Value} {pre : List (Nat × AObj)} {v : Value} {post : List (Nat × Option AObj)} {n dn : Nat} (e : A = A') (h : Zk P f A' pre v post n dn) : Zk P f A pre v post n dn := e ▸ h
end Ev
end Go.Proofs.YtaajdoclloamlaaGreat
/- Rows of elements of any kind: each element so many cells. -/
namespace Go.Proofs.YtaajdoclloamlaaGreat
open Go.RowKit
namespace Ev
structure Enc (α : Type) where
 enc : α → List Value
 w : Nat
 dflt : α
 len : ∀ a, (enc a).length = w
 atoms : ∀ a, ZN atom (enc a) = true
section
variable {α : Type} {E : Enc α}
/-! ### Such a row is a row of atoms -/
end
abbrev vi (x : Int) : Value := .int .i64 x
abbrev vs (k o n c : Nat) : Value := .slice (some ⟨k, o, none⟩) n c
abbrev vp (k o : Nat) : Value := .pointer (some ⟨k, o, none⟩)
theorem bT {a b : Int} (h : a = b) : (a == b) = true := beq_iff_eq.2 h
/-! ### Rows of the caller's, as rows -/
section
variable {α : Type} {E : Enc α}
end
/-! ### Bytes as strings -/
end Ev
end Go.Proofs.YtaajdoclloamlaaGreat
/- Functions told of whole runs: their own loops run on. -/
namespace Go.Proofs.YtaajdoclloamlaaGreat
open Go.RowKit
namespace Ev
section
variable {P : Program} {ext : FuncId → Option Ext} {pre : List AObj} {A : Array Value} {R : Type} {V : R → Value} {Po : R → List (Option AObj)} {live : List Nat} {bl : List (Option AObj)} {ob : List (Bool × Bool)} {fu : Nat} {orc : Orc}
noncomputable def ZuR (P : Program) (ext : FuncId → Option Ext) (f : FuncId) (pre : List AObj) (A : Array Value) (fu : Nat) (orc : Orc) : Option Stop :=
 match ZdN P ext fu f A ⟨Zix 0 pre, pre.length, [], orc, []⟩ with
 | some (v, s) => some (.fin v s)
 | none => none
theorem Zvy (F : Fit P ext) {f : FuncId} {v u : Value} {post : List (Option AObj)} {s : St} (hev : ZuR P ext f pre A fu orc = some (.fin u s)) (ho : ∀ p ∈ s.ob, p.1 = p.2) (hn : s.n ≤ far) (hle : post.length ≤ far) (live : List Nat) (h : Zwf pre.length v post u s live) : LSpec P f A pre v post := by
 intro ι w args' hd ha he
 have hc : ZdN P ext fu f A ⟨Zix 0 pre, pre.length, [], orc, []⟩ = some (u, s) := by
  unfold ZuR at hev
  split at hev
  ·rename_i v1 s1 h1
   injection hev with hev
   injection hev with q1 q2
   rw [h1, q1, q2]
  ·cases hev
 have hF := (Zfl (P := P) F fu).2.2.2.1 f A _ u s hc ho ι w args' ha (by show Emb P ι (Zix 0 pre).get w; rw [Zo8]; exact he)
  ⟨hn, fun k h1 _ => by
   cases hk : ι k with
   | none => rfl
   | some b => exact absurd (hd k (by rw [hk]; simp)) (by have : pre.length ≤ k := h1; omega)⟩
 refine hF.mono ?_
 rintro e w' ⟨v', ι', rfl, g1, g2, g3⟩
 exact ZwE hle hd h (by have := g1; simp only [Zo8] at this; exact this) g3
def Gx (P : Program) (f : FuncId) (pre : List AObj) (A : Array Value) {R : Type} (V : R → Value) (Po : R → List (Option AObj)) (o : Option R) : Prop :=
 ∀ r, o = some r → LSpec P f A pre (V r) (Po r)
variable {f : FuncId}
theorem Zas : Gx P f pre A V Po none := fun _ h => by cases h
theorem ZR {c : Prop} [Decidable c] {B C : Option R} (h1 : c → Gx P f pre A V Po B) (h2 : ¬ c → Gx P f pre A V Po C) : Gx P f pre A V Po (if c then B else C) := by
 by_cases h : c
 ·rw [if_pos h]; exact h1 h
 ·rw [if_neg h]; exact h2 h
theorem Ze {α : Type} {o : Option α} {k : α → Option R} (h : ∀ r, o = some r → Gx P f pre A V Po (k r)) : Gx P f pre A V Po (o.bind k) := by
 cases o with
 | none => exact Zas
 | some r => exact h r rfl
theorem Zi (F : Fit P ext) {r : R} {u : Value} (hev : ZuI live (ZuR P ext f pre A fu orc) = some (u, bl, ob)) (ho : ∀ p ∈ ob, p.1 = p.2) (hl : live.length = (Po r).length) (hn : live.Nodup) (hk : Zmx pre.length live = true) (hv : V r = Zb4 (rho live far) 3 u ∧ Zbi 3 u = true) (hbl : Zgb (rho live far) bl (Po r)) (hle : (Po r).length ≤ far) : Gx P f pre A V Po (some r) := by
 intro r' hr
 obtain rfl := Option.some.inj hr
 obtain ⟨s, h1, rfl, rfl, h4⟩ := Zvx hev
 exact Zvy F h1 ho h4 hle live ⟨hl, hn, hk, hv, Zj1 hbl⟩
end
end Ev
end Go.Proofs.YtaajdoclloamlaaGreat
/- Records, and the program's functions as plain ones. -/
namespace Go.Proofs.YtaajdoclloamlaaGreat
open Go.RowKit
namespace Ev
set_option linter.unusedVariables false
structure R_ii where
 a0 : Int
 a1 : Int
def R_ii.z : R_ii := ⟨0, 0⟩
inductive Z5 where
 | r0

inductive Zd where
 | h1m0
 | h1m1
 | h1m2
 | h1m3
 | h1m4
 | h1m5
 | h1m6
 | h1m7
 | h1m8
 | h1m9
 | h1m10
 | h1m11
 | h1m12
 | h1m13
 | h1m14
 | h1m15
 | h1m16
 | h1m17
 | h1m18
 | h1m19
 | h1m20
 | h1m21
 | h1m22
 | h1m23
 | h1m24
 | h1m25
 | h1m26
 | h1m27
 | h1m28
 | h1m29
 | h1m30

def Zh3  (N : Nat) : Option (Zd ⊕ Z5) :=
 some (.inl (.h1m1 : Zd))

def Zh4  (N : Nat) : Option (Zd ⊕ Z5) :=
 some (.inl (.h1m2 : Zd))

def Zh5  (N : Nat) : Option (Zd ⊕ Z5) :=
 some (.inl (.h1m3 : Zd))

def Zh6  (N : Nat) : Option (Zd ⊕ Z5) :=
 some (.inl (.h1m4 : Zd))

def Zh7  (N : Nat) : Option (Zd ⊕ Z5) :=
 some (.inl (.h1m5 : Zd))

def Zh8  (N : Nat) : Option (Zd ⊕ Z5) :=
 some (.inl (.h1m6 : Zd))

def Zh9  (N : Nat) : Option (Zd ⊕ Z5) :=
 some (.inl (.h1m7 : Zd))

def ZhA  (N : Nat) : Option (Zd ⊕ Z5) :=
 some (.inl (.h1m8 : Zd))

def ZhB  (N : Nat) : Option (Zd ⊕ Z5) :=
 some (.inl (.h1m9 : Zd))

def ZhC  (N : Nat) : Option (Zd ⊕ Z5) :=
 some (.inl (.h1m10 : Zd))

def ZgP  (N : Nat) : Option (Zd ⊕ Z5) :=
 some (.inl (.h1m11 : Zd))

def ZgQ  (N : Nat) : Option (Zd ⊕ Z5) :=
 some (.inl (.h1m12 : Zd))

def ZgR  (N : Nat) : Option (Zd ⊕ Z5) :=
 some (.inl (.h1m13 : Zd))

def ZgS  (N : Nat) : Option (Zd ⊕ Z5) :=
 some (.inl (.h1m14 : Zd))

def ZgT  (N : Nat) : Option (Zd ⊕ Z5) :=
 some (.inl (.h1m15 : Zd))

def ZgU  (N : Nat) : Option (Zd ⊕ Z5) :=
 some (.inl (.h1m16 : Zd))

def ZgV  (N : Nat) : Option (Zd ⊕ Z5) :=
 some (.inl (.h1m17 : Zd))

def ZgW  (N : Nat) : Option (Zd ⊕ Z5) :=
 some (.inl (.h1m18 : Zd))

def ZgX  (N : Nat) : Option (Zd ⊕ Z5) :=
 some (.inl (.h1m19 : Zd))

def ZgY  (N : Nat) : Option (Zd ⊕ Z5) :=
 some (.inl (.h1m20 : Zd))

def ZgZ  (N : Nat) : Option (Zd ⊕ Z5) :=
 some (.inl (.h1m21 : Zd))

def Zha  (N : Nat) : Option (Zd ⊕ Z5) :=
 some (.inl (.h1m22 : Zd))

def Zhb  (N : Nat) : Option (Zd ⊕ Z5) :=
 some (.inl (.h1m23 : Zd))

def Zhc  (N : Nat) : Option (Zd ⊕ Z5) :=
 some (.inl (.h1m24 : Zd))

def Zhd  (N : Nat) : Option (Zd ⊕ Z5) :=
 some (.inl (.h1m25 : Zd))

def Zhe  (N : Nat) : Option (Zd ⊕ Z5) :=
 some (.inl (.h1m26 : Zd))

def Zhf  (N : Nat) : Option (Zd ⊕ Z5) :=
 some (.inl (.h1m27 : Zd))

def Zhg  (N : Nat) : Option (Zd ⊕ Z5) :=
 some (.inl (.h1m28 : Zd))

def Zhh  (N : Nat) : Option (Zd ⊕ Z5) :=
 some (.inl (.h1m29 : Zd))

def Zhi  (N : Nat) : Option (Zd ⊕ Z5) :=
 some (.inl (.h1m30 : Zd))

def Zhj  (N : Nat) : Option (Zd ⊕ Z5) :=
 some (.inr (.r0 : Z5))

def Zz  (N : Nat) : Zd → Option (Zd ⊕ Z5)
 | .h1m0 => Zh3  N
 | .h1m1 => Zh4  N
 | .h1m2 => Zh5  N
 | .h1m3 => Zh6  N
 | .h1m4 => Zh7  N
 | .h1m5 => Zh8  N
 | .h1m6 => Zh9  N
 | .h1m7 => ZhA  N
 | .h1m8 => ZhB  N
 | .h1m9 => ZhC  N
 | .h1m10 => ZgP  N
 | .h1m11 => ZgQ  N
 | .h1m12 => ZgR  N
 | .h1m13 => ZgS  N
 | .h1m14 => ZgT  N
 | .h1m15 => ZgU  N
 | .h1m16 => ZgV  N
 | .h1m17 => ZgW  N
 | .h1m18 => ZgX  N
 | .h1m19 => ZgY  N
 | .h1m20 => ZgZ  N
 | .h1m21 => Zha  N
 | .h1m22 => Zhb  N
 | .h1m23 => Zhc  N
 | .h1m24 => Zhd  N
 | .h1m25 => Zhe  N
 | .h1m26 => Zhf  N
 | .h1m27 => Zhg  N
 | .h1m28 => Zhh  N
 | .h1m29 => Zhi  N
 | .h1m30 => Zhj  N

def Zko  (N : Nat) : Option (Zd ⊕ Z5) :=
 some (.inl (.h1m0 : Zd))

def Zvz  (N : Nat) : Option Z5 := goM (Zz  N) N (Zko  N)
end Ev
end Go.Proofs.YtaajdoclloamlaaGreat
/- How records are written, and which functions are told. -/
namespace Go.Proofs.YtaajdoclloamlaaGreat
open Go.RowKit
namespace Ev
set_option linter.unusedVariables false
theorem Zik {a b : Int} (h : ¬ 0 ≤ a) (hb : 0 < b) : Int.tmod a b = 0 - ((0 - a) % b) := by
 have e : a = -(-a) := by omega
 rw [e, Int.neg_tmod, Int.tmod_eq_emod_of_nonneg (by omega)]
 simp
theorem ZS (n : Int) : IntKind.i64.wrap (((BitVec.ofInt IntKind.i64.bits n &&& BitVec.ofInt IntKind.i64.bits 7).toNat : Nat) : Int) = n % 8 := by
 have e1 : (BitVec.ofInt 64 n &&& BitVec.ofInt 64 7).toNat = (BitVec.ofInt 64 n).toNat % 8 := by
  rw [BitVec.toNat_and]
  have : (BitVec.ofInt 64 7).toNat = 2 ^ 3 - 1 := by decide
  rw [this, Nat.and_two_pow_sub_one_eq_mod]
 have e2 : ((BitVec.ofInt 64 n).toNat : Int) = n % 18446744073709551616 := by
  rw [BitVec.toNat_ofInt]
  omega
 show IntKind.i64.wrap (((BitVec.ofInt 64 n &&& BitVec.ofInt 64 7).toNat : Nat) : Int) = n % 8
 rw [e1, wrap_i64 (by omega)]
 omega
abbrev vq : Value := .int .i64 0
abbrev vf : Value := .bool false
abbrev vT : Value := .bool true
abbrev vn : Value := .slice none 0 0
noncomputable abbrev dS {α : Type} (a : α) : Bool := dP (a = a)
theorem ltA {p : Prop} (h : p := by first | omega | (simp only [List.length_set, List.length_append, List.length_cons, List.length_nil, List.length_replicate, List.length_take, List.length_drop] at * <;> omega)) : p := h
theorem rr {p q : Prop} (h : p := by rfl) (h2 : q := by rfl) : p ∧ q := ⟨h, h2⟩
section
variable {l : List (Bool × Bool)}
theorem oT {a b : Int} (hl : ∀ q ∈ l, q.1 = q.2) (h : a = b := by omega) : ∀ q ∈ ((a == b), true) :: l, q.1 = q.2 := Zb (bT h) hl
theorem oE {a b : Int} (hl : ∀ q ∈ l, q.1 = q.2) (h : a = b := by omega) : ∀ q ∈ ((a != b), false) :: l, q.1 = q.2 := Zb (bne_eq_false_iff_eq.2 h) hl
theorem oY {p : Prop} [Decidable p] (hl : ∀ q ∈ l, q.1 = q.2) (h : p := by omega) : ∀ q ∈ (decide p, true) :: l, q.1 = q.2 := Zb (decide_eq_true h) hl
theorem oN {p : Prop} [Decidable p] (hl : ∀ q ∈ l, q.1 = q.2) (h : ¬ p := by omega) : ∀ q ∈ (decide p, false) :: l, q.1 = q.2 := Zb (decide_eq_false h) hl
end
def mapE (L : List R_ii) : List MapEntry := L.map fun x => ⟨.int .i64 x.a0, .int .i64 x.a1, 0⟩
def ZG (L : List R_ii) : Obj := .map (mapE L).toArray 0
instance : Inhabited R_ii := ⟨R_ii.z⟩
def tqA : Value → Value → Bool
 | .int k a, .int k' b => decide (k = k') && (a == b)
 | .bool a, .bool b => a == b
 | _, _ => false
def tqL : List Value → List Value → Bool
 | [], [] => true
 | x :: l, y :: m => tqA x y && tqL l m
 | _, _ => false
def tqB : Value → Value → Bool
 | .agg a, .agg b => tqL a.toList b.toList
 | x, y => tqA x y
def tqM : List Value → List Value → Bool
 | [], [] => true
 | x :: l, y :: m => tqB x y && tqM l m
 | _, _ => false
theorem ZuS {x y : Value} (h : tqA x y = true) : x = y := by
 unfold tqA at h
 split at h
 ·simp only [Bool.and_eq_true, decide_eq_true_eq, beq_iff_eq] at h; rw [h.1, h.2]
 ·rw [beq_iff_eq.1 h]
 ·cases h
theorem ZuT : ∀ {x y : List Value}, tqL x y = true → x = y
 | [], [], _ => rfl
 | [], _ :: _, h => by cases h
 | _ :: _, [], h => by cases h
 | x :: l, y :: m, h => by
  simp only [tqL, Bool.and_eq_true] at h
  rw [ZuS h.1, ZuT h.2]
theorem Zxx {x y : Value} (h : tqB x y = true) : x = y := by
 unfold tqB at h
 split at h
 ·rename_i a b
  have := ZuT h
  rw [Array.ext' this]
 ·exact ZuS h
theorem ZuU : ∀ {x y : List Value}, tqM x y = true → x = y
 | [], [], _ => rfl
 | [], _ :: _, h => by cases h
 | _ :: _, [], h => by cases h
 | x :: l, y :: m, h => by
  simp only [tqM, Bool.and_eq_true] at h
  rw [Zxx h.1, ZuU h.2]
def Zwo : List (List Value × Value) → List Value → Option Value
 | [], _ => none
 | e :: t, l => bif tqM e.1 l then some e.2 else Zwo t l
theorem ZtQ : ∀ {t : List (List Value × Value)} {l : List Value} {v : Value}, Zwo t l = some v → ∃ e ∈ t, e.1 = l ∧ e.2 = v
 | [], l, v, h => by cases h
 | e :: t, l, v, h => by
  simp only [Zwo] at h
  cases hb : tqM e.1 l with
  | true =>
   rw [hb] at h
   simp only [cond_true, Option.some.injEq] at h
   exact ⟨e, List.mem_cons_self, ZuU hb, h⟩
  | false =>
   rw [hb] at h
   simp only [cond_false] at h
   obtain ⟨e', h1, h2⟩ := ZtQ h
   exact ⟨e', List.mem_cons_of_mem _ h1, h2⟩
theorem Zxy (w : World) : Calls Tryz.prog 27 #[Value.agg #[Value.int .i64 (10 : Int), Value.int .i64 (0 : Int), Value.int .i64 (0 : Int), Value.int .i64 (0 : Int)]] w (Ret (Value.int .i64 (0 : Int)) w) := ZcL 4000 w (by kernel_rfl) rfl
theorem Zxz (w : World) : Calls Tryz.prog 27 #[Value.agg #[Value.int .i64 (1 : Int), Value.int .i64 (1 : Int), Value.int .i64 (13 : Int), Value.int .i64 (0 : Int)]] w (Ret (Value.int .i64 (0 : Int)) w) := ZcL 4000 w (by kernel_rfl) rfl
theorem Zx0 (w : World) : Calls Tryz.prog 27 #[Value.agg #[Value.int .i64 (1 : Int), Value.int .i64 (6 : Int), Value.int .i64 (7 : Int), Value.int .i64 (0 : Int)]] w (Ret (Value.int .i64 (0 : Int)) w) := ZcL 4000 w (by kernel_rfl) rfl
theorem Zx1 (w : World) : Calls Tryz.prog 27 #[Value.agg #[Value.int .i64 (15 : Int), Value.int .i64 (0 : Int), Value.int .i64 (0 : Int), Value.int .i64 (0 : Int)]] w (Ret (Value.int .i64 (0 : Int)) w) := ZcL 4000 w (by kernel_rfl) rfl
theorem Zx2 (w : World) : Calls Tryz.prog 27 #[Value.agg #[Value.int .i64 (13 : Int), Value.int .i64 (3 : Int), Value.int .i64 (0 : Int), Value.int .i64 (5 : Int)]] w (Ret (Value.int .i64 (0 : Int)) w) := ZcL 4000 w (by kernel_rfl) rfl
theorem Zx3 (w : World) : Calls Tryz.prog 27 #[Value.agg #[Value.int .i64 (9 : Int), Value.int .i64 (3 : Int), Value.int .i64 (13 : Int), Value.int .i64 (0 : Int)]] w (Ret (Value.int .i64 (0 : Int)) w) := ZcL 4000 w (by kernel_rfl) rfl
theorem Zx4 (w : World) : Calls Tryz.prog 27 #[Value.agg #[Value.int .i64 (13 : Int), Value.int .i64 (4 : Int), Value.int .i64 (3 : Int), Value.int .i64 (1 : Int)]] w (Ret (Value.int .i64 (0 : Int)) w) := ZcL 4000 w (by kernel_rfl) rfl
theorem Zx5 (w : World) : Calls Tryz.prog 27 #[Value.agg #[Value.int .i64 (7 : Int), Value.int .i64 (5 : Int), Value.int .i64 (4 : Int), Value.int .i64 (1 : Int)]] w (Ret (Value.int .i64 (0 : Int)) w) := ZcL 4000 w (by kernel_rfl) rfl
theorem Zx6 (w : World) : Calls Tryz.prog 27 #[Value.agg #[Value.int .i64 (9 : Int), Value.int .i64 (5 : Int), Value.int .i64 (11 : Int), Value.int .i64 (0 : Int)]] w (Ret (Value.int .i64 (0 : Int)) w) := ZcL 4000 w (by kernel_rfl) rfl
theorem Zx7 (w : World) : Calls Tryz.prog 27 #[Value.agg #[Value.int .i64 (14 : Int), Value.int .i64 (3 : Int), Value.int .i64 (2 : Int), Value.int .i64 (6 : Int)]] w (Ret (Value.int .i64 (0 : Int)) w) := ZcL 4000 w (by kernel_rfl) rfl
theorem ZwN (w : World) : Calls Tryz.prog 27 #[Value.agg #[Value.int .i64 (8 : Int), Value.int .i64 (19 : Int), Value.int .i64 (0 : Int), Value.int .i64 (0 : Int)]] w (Ret (Value.int .i64 (0 : Int)) w) := ZcL 4000 w (by kernel_rfl) rfl
theorem ZwO (w : World) : Calls Tryz.prog 27 #[Value.agg #[Value.int .i64 (13 : Int), Value.int .i64 (3 : Int), Value.int .i64 (3 : Int), Value.int .i64 (0 : Int)]] w (Ret (Value.int .i64 (0 : Int)) w) := ZcL 4000 w (by kernel_rfl) rfl
theorem ZwP (w : World) : Calls Tryz.prog 27 #[Value.agg #[Value.int .i64 (8 : Int), Value.int .i64 (5 : Int), Value.int .i64 (0 : Int), Value.int .i64 (0 : Int)]] w (Ret (Value.int .i64 (0 : Int)) w) := ZcL 4000 w (by kernel_rfl) rfl
theorem ZwQ (w : World) : Calls Tryz.prog 27 #[Value.agg #[Value.int .i64 (11 : Int), Value.int .i64 (2 : Int), Value.int .i64 (3 : Int), Value.int .i64 (1 : Int)]] w (Ret (Value.int .i64 (0 : Int)) w) := ZcL 4000 w (by kernel_rfl) rfl
theorem ZwR (w : World) : Calls Tryz.prog 27 #[Value.agg #[Value.int .i64 (14 : Int), Value.int .i64 (2 : Int), Value.int .i64 (1 : Int), Value.int .i64 (1 : Int)]] w (Ret (Value.int .i64 (0 : Int)) w) := ZcL 4000 w (by kernel_rfl) rfl
theorem ZwS (w : World) : Calls Tryz.prog 27 #[Value.agg #[Value.int .i64 (14 : Int), Value.int .i64 (2 : Int), Value.int .i64 (2 : Int), Value.int .i64 (6 : Int)]] w (Ret (Value.int .i64 (0 : Int)) w) := ZcL 4000 w (by kernel_rfl) rfl
theorem ZwT (w : World) : Calls Tryz.prog 27 #[Value.agg #[Value.int .i64 (14 : Int), Value.int .i64 (2 : Int), Value.int .i64 (0 : Int), Value.int .i64 (3 : Int)]] w (Ret (Value.int .i64 (0 : Int)) w) := ZcL 4000 w (by kernel_rfl) rfl
theorem ZwU (w : World) : Calls Tryz.prog 27 #[Value.agg #[Value.int .i64 (14 : Int), Value.int .i64 (0 : Int), Value.int .i64 (5 : Int), Value.int .i64 (2 : Int)]] w (Ret (Value.int .i64 (0 : Int)) w) := ZcL 4000 w (by kernel_rfl) rfl
theorem ZwV (w : World) : Calls Tryz.prog 27 #[Value.agg #[Value.int .i64 (17 : Int), Value.int .i64 (0 : Int), Value.int .i64 (0 : Int), Value.int .i64 (0 : Int)]] w (Ret (Value.int .i64 (0 : Int)) w) := ZcL 4000 w (by kernel_rfl) rfl
def Zt1 : List (List Value × Value) := [([Value.agg #[Value.int .i64 (10 : Int), Value.int .i64 (0 : Int), Value.int .i64 (0 : Int), Value.int .i64 (0 : Int)]], Value.int .i64 (0 : Int)), ([Value.agg #[Value.int .i64 (1 : Int), Value.int .i64 (1 : Int), Value.int .i64 (13 : Int), Value.int .i64 (0 : Int)]], Value.int .i64 (0 : Int)), ([Value.agg #[Value.int .i64 (1 : Int), Value.int .i64 (6 : Int), Value.int .i64 (7 : Int), Value.int .i64 (0 : Int)]], Value.int .i64 (0 : Int)), ([Value.agg #[Value.int .i64 (15 : Int), Value.int .i64 (0 : Int), Value.int .i64 (0 : Int), Value.int .i64 (0 : Int)]], Value.int .i64 (0 : Int)), ([Value.agg #[Value.int .i64 (13 : Int), Value.int .i64 (3 : Int), Value.int .i64 (0 : Int), Value.int .i64 (5 : Int)]], Value.int .i64 (0 : Int)), ([Value.agg #[Value.int .i64 (9 : Int), Value.int .i64 (3 : Int), Value.int .i64 (13 : Int), Value.int .i64 (0 : Int)]], Value.int .i64 (0 : Int)), ([Value.agg #[Value.int .i64 (13 : Int), Value.int .i64 (4 : Int), Value.int .i64 (3 : Int), Value.int .i64 (1 : Int)]], Value.int .i64 (0 : Int)), ([Value.agg #[Value.int .i64 (7 : Int), Value.int .i64 (5 : Int), Value.int .i64 (4 : Int), Value.int .i64 (1 : Int)]], Value.int .i64 (0 : Int)), ([Value.agg #[Value.int .i64 (9 : Int), Value.int .i64 (5 : Int), Value.int .i64 (11 : Int), Value.int .i64 (0 : Int)]], Value.int .i64 (0 : Int)), ([Value.agg #[Value.int .i64 (14 : Int), Value.int .i64 (3 : Int), Value.int .i64 (2 : Int), Value.int .i64 (6 : Int)]], Value.int .i64 (0 : Int)), ([Value.agg #[Value.int .i64 (8 : Int), Value.int .i64 (19 : Int), Value.int .i64 (0 : Int), Value.int .i64 (0 : Int)]], Value.int .i64 (0 : Int)), ([Value.agg #[Value.int .i64 (13 : Int), Value.int .i64 (3 : Int), Value.int .i64 (3 : Int), Value.int .i64 (0 : Int)]], Value.int .i64 (0 : Int)), ([Value.agg #[Value.int .i64 (8 : Int), Value.int .i64 (5 : Int), Value.int .i64 (0 : Int), Value.int .i64 (0 : Int)]], Value.int .i64 (0 : Int)), ([Value.agg #[Value.int .i64 (11 : Int), Value.int .i64 (2 : Int), Value.int .i64 (3 : Int), Value.int .i64 (1 : Int)]], Value.int .i64 (0 : Int)), ([Value.agg #[Value.int .i64 (14 : Int), Value.int .i64 (2 : Int), Value.int .i64 (1 : Int), Value.int .i64 (1 : Int)]], Value.int .i64 (0 : Int)), ([Value.agg #[Value.int .i64 (14 : Int), Value.int .i64 (2 : Int), Value.int .i64 (2 : Int), Value.int .i64 (6 : Int)]], Value.int .i64 (0 : Int)), ([Value.agg #[Value.int .i64 (14 : Int), Value.int .i64 (2 : Int), Value.int .i64 (0 : Int), Value.int .i64 (3 : Int)]], Value.int .i64 (0 : Int)), ([Value.agg #[Value.int .i64 (14 : Int), Value.int .i64 (0 : Int), Value.int .i64 (5 : Int), Value.int .i64 (2 : Int)]], Value.int .i64 (0 : Int)), ([Value.agg #[Value.int .i64 (17 : Int), Value.int .i64 (0 : Int), Value.int .i64 (0 : Int), Value.int .i64 (0 : Int)]], Value.int .i64 (0 : Int))]
theorem Zwp : ∀ e ∈ Zt1, ∀ w : World, Calls Tryz.prog 27 e.1.toArray w (Ret e.2 w) := by
 intro e he w
 unfold Zt1 at he
 rcases List.mem_cons.1 he with rfl | he
 ·exact Zxy w
 rcases List.mem_cons.1 he with rfl | he
 ·exact Zxz w
 rcases List.mem_cons.1 he with rfl | he
 ·exact Zx0 w
 rcases List.mem_cons.1 he with rfl | he
 ·exact Zx1 w
 rcases List.mem_cons.1 he with rfl | he
 ·exact Zx2 w
 rcases List.mem_cons.1 he with rfl | he
 ·exact Zx3 w
 rcases List.mem_cons.1 he with rfl | he
 ·exact Zx4 w
 rcases List.mem_cons.1 he with rfl | he
 ·exact Zx5 w
 rcases List.mem_cons.1 he with rfl | he
 ·exact Zx6 w
 rcases List.mem_cons.1 he with rfl | he
 ·exact Zx7 w
 rcases List.mem_cons.1 he with rfl | he
 ·exact ZwN w
 rcases List.mem_cons.1 he with rfl | he
 ·exact ZwO w
 rcases List.mem_cons.1 he with rfl | he
 ·exact ZwP w
 rcases List.mem_cons.1 he with rfl | he
 ·exact ZwQ w
 rcases List.mem_cons.1 he with rfl | he
 ·exact ZwR w
 rcases List.mem_cons.1 he with rfl | he
 ·exact ZwS w
 rcases List.mem_cons.1 he with rfl | he
 ·exact ZwT w
 rcases List.mem_cons.1 he with rfl | he
 ·exact ZwU w
 rcases List.mem_cons.1 he with rfl | he
 ·exact ZwV w
 cases he
def Zwq : FuncId → Option (List Value → Option Value) := fun f =>
 bif Nat.beq f 27 then some (Zwo Zt1) else
 none
theorem Zyd : Zrm Zwq := fun f g h => by
 unfold Zwq at h
 cases hb : Nat.beq f 27 with
 | true =>
  rw [hb] at h
  obtain rfl := Nat.eq_of_beq_eq_true hb
  simp only [cond_true, Option.some.injEq] at h
  subst h
  refine ⟨⟨_, _, Tryz.func27, rfl⟩, fun args v ha hv w => ?_⟩
  obtain ⟨e, he, h1, rfl⟩ := ZtQ hv
  have := Zwp e he w
  rw [h1, Array.toArray_toList] at this
  exact this
 | false =>
  rw [hb] at h
  simp only [cond_false] at h
  cases h
def ZxC : FuncId → Bool := fun f => Nat.beq f 14
noncomputable def ZE : FuncId → Option Ext := ZuH (Zwm Zwq) ZxC
theorem Zye : Fit Tryz.prog ZE := fitT (Zxv Zyd) (fun f h => by
 simp only [ZxC, Bool.or_eq_true] at h
 simp only [Nat.beq_eq] at h
 rcases h with rfl
 ·exact ⟨_, _, Tryz.func14, rfl⟩
 )
end Ev
end Go.Proofs.YtaajdoclloamlaaGreat
/- Calls do what the plain functions say. -/
namespace Go.Proofs.YtaajdoclloamlaaGreat
open Go.RowKit
namespace Ev
set_option linter.unusedVariables false
set_option maxRecDepth 100000
abbrev hca : AObj := .cells [vi 1, vi 1, vf, vf, vq, vf, vf, vq, vf, vf, vq, vf, vf, vq, vf, vf, vq, vf, vf, vq, vf, vf, vq, vf, vf, vq, vf, vf, vq, vf, vf, vq, vf, vf, vq, vf, vf, vq, vf, vf, vq, vf, vf, vq, vf, vf, vq, vf, vf, vq, vf, vf, vq, vf, vf, vq, vf, vf, vq, vf, vf, vq, vf, vf, vq, vf, vf, vq, vf, vf, vq, vf, vf, vq, vf, vf, vq, vf, vf, vq, vf, vf, vq, vf, vf, vq, vf, vf, vq, vf, vf, vq, vf, vf, vq, vf, vf, vq, vf, vf, vq, vf, vf, vq, vf, vf, vq, vf, vf, vq, vf, vf, vq, vf, vf, vq, vf, vf, vq, vf, vf, vq, vf, vf, vq, vf, vf, vq, vf, vf, vq, vf, vf, vq, vf, vf, vq, vf, vf, vq, vf, vf, vq, vf, vf, vq, vf, vf, vq, vf, vf, vq, vf, vf, vq, vf, vf, vq, vf, vf, vq, vf, vf, vq, vf, vf, vq, vf, vf, vq, vf, vf, vq, vf, vf, vq, vf, vf, vq, vf, vf, vq, vf, vf, vq, vf, vf, vq, vf, vf, vq, vf, vf, vi 400, vi 16, vi 64, vi 64, vi 1073741824, vi 1, vq, vp 4 0, vp 5 0, vp 6 0, vp 7 0] 147
abbrev hcb : AObj := .cells [vi 10, vq, vq, vq, vi 1, vi 1, vi 13, vq, vi 1, vi 6, vi 7, vq, vi 15, vq, vq, vq, vi 13, vi 3, vq, vi 5, vi 9, vi 3, vi 13, vq, vi 13, vi 4, vi 3, vi 1, vi 7, vi 5, vi 4, vi 1, vi 9, vi 5, vi 11, vq, vi 14, vi 3, vi 2, vi 6, vi 8, vi 19, vq, vq, vi 13, vi 3, vi 3, vq, vi 8, vi 5, vq, vq, vi 11, vi 2, vi 3, vi 1, vi 14, vi 2, vi 1, vi 1, vi 14, vi 2, vi 2, vi 6, vi 13, vi 3, vq, vi 5, vi 14, vi 2, vq, vi 3, vi 14, vq, vi 5, vi 2, vi 17, vq, vq, vq] 43
abbrev hcc : AObj := .cells [vi 1, vi 1, vq, vq, vq, vq, vq, vq, vq, vq, vq, vq, vq, vq, vq, vq, vq, vq, vq, vq, vq, vq, vq, vq, vq, vq, vq, vq, vq, vq, vq, vq, vq, vq, vq, vq, vq, vq, vq, vq, vq, vq, vq, vq, vq, vq, vq, vq, vq, vq, vq, vq, vq, vq, vq, vq, vq, vq, vq, vq, vq, vq, vq, vq, vq] 203
abbrev hcd : AObj := .cells [vi 1, vi 16, vi 255, vi 2, vq, vq, vq, vq, vq, vq, vq, vq, vq, vq, vq, vq, vq, vq, vq, vq, vq, vq, vq, vq, vq, vq, vq, vq, vq, vq, vq, vq, vq, vq, vq, vq, vq, vq, vq, vq, vq, vq, vq, vq, vq, vq, vq, vq, vq, vq, vq, vq, vq, vq, vq, vq, vq, vq, vq, vq, vq, vq, vq, vq, vq, vq, vq, vq, vq, vq, vq, vq, vq, vq, vq, vq, vq, vq, vq, vq, vq, vq, vq, vq, vq, vi 1, vi 3, vi 1, vi 2, vq, vq, vq, vq, vq, vq, vq, vq, vq, vq, vq, vq, vq, vq, vq, vq] 108
abbrev hce : AObj := .cells [vi 1, vi 16, vi 255, vi 2, vq, vq, vq, vq, vq, vq, vq, vq, vq, vq, vq, vq, vq, vq, vq, vq, vq, vq, vq, vq, vq, vq, vq, vq, vq, vq, vq, vq, vq, vq, vq, vq, vq, vq, vq, vq, vq, vq, vq, vq, vq, vq, vq, vq, vq, vq, vq, vq, vq, vq, vq, vq, vq, vq, vq, vq, vq, vq, vq, vq, vq, vq, vq, vq, vq, vq, vq, vq, vq, vq, vq, vq, vq, vq, vq, vq, vq, vq, vq, vq, vq, vi 1, vi 3, vi 1, vi 1, vq, vq, vq, vq, vq, vq, vq, vq, vq, vq, vq, vq, vq, vq, vq, vq] 108
abbrev hcf : AObj := .cells [vi 1, vi 16, vi 255, vi 2, vq, vq, vq, vq, vq, vq, vq, vq, vq, vq, vq, vq, vq, vq, vq, vq, vq, vq, vq, vq, vq, vq, vq, vq, vq, vq, vq, vq, vq, vq, vq, vq, vq, vq, vq, vq, vq, vq, vq, vq, vq, vq, vq, vq, vq, vq, vq, vq, vq, vq, vq, vq, vq, vq, vq, vq, vq, vq, vq, vq, vq, vq, vq, vq, vq, vq, vq, vq, vq, vq, vq, vq, vq, vq, vq, vq, vq, vq, vq, vq, vq] 108
abbrev hcg : AObj := .cells [vi 1, vq, vf, vf, vq, vf, vf, vq, vf, vf, vq, vf, vf, vq, vf, vf, vq, vf, vf, vq, vf, vf, vq, vf, vf, vq, vf, vf, vq, vf, vf, vq, vf, vf, vq, vf, vf, vq, vf, vf, vq, vf, vf, vq, vf, vf, vq, vf, vf, vq, vf, vf, vq, vf, vf, vq, vf, vf, vq, vf, vf, vq, vf, vf, vq, vf, vf, vq, vf, vf, vq, vf, vf, vq, vf, vf, vq, vf, vf, vq, vf, vf, vq, vf, vf, vq, vf, vf, vq, vf, vf, vq, vf, vf, vq, vf, vf, vq, vf, vf, vq, vf, vf, vq, vf, vf, vq, vf, vf, vq, vf, vf, vq, vf, vf, vq, vf, vf, vq, vf, vf, vq, vf, vf, vq, vf, vf, vq, vf, vf, vq, vf, vf, vq, vf, vf, vq, vf, vf, vq, vf, vf, vq, vf, vf, vq, vf, vf, vq, vf, vf, vq, vf, vf, vq, vf, vf, vq, vf, vf, vq, vf, vf, vq, vf, vf, vq, vf, vf, vq, vf, vf, vq, vf, vf, vq, vf, vf, vq, vf, vf, vq, vf, vf, vq, vf, vf, vq, vf, vf, vq, vf, vf, vi 400, vi 16, vi 64, vi 64, vi 1073741824, vi 1, vq, vp 6 0, vp 7 0, vp 8 0, vp 9 0] 147
abbrev hch : AObj := .cells [vq, vq, vq, vq, vq, vq, vq, vq, vq, vq, vq, vq, vq, vq, vq, vq] 198
abbrev hci : AObj := .cells [vi 3, vi 2, vi 1048577, vi 1, vi 13, vi 1, vq, vi 1, vq, vi 1, vq, vi 1, vq, vi 1, vi 7, vi 1, vq, vq, vq, vq, vq, vf] 273
abbrev hcj : AObj := .cells [vq, vq, vq, vq, vq, vq, vq, vq, vq, vq, vq, vq, vq, vq, vq, vq, vn, vq, vf, vf, vq, vq, vq, vq, vp 2 0, vq, Value.nilFunc] 235
abbrev hck : AObj := .cells [vq, vq, vi 2, vq, vi 2, vq, vi 2, vq, vi 2, vq, vi 2, vq, vi 2, vq, vi 2, vq, vi 2, vq, vi 1, vq, vi 1, vq, vi 1, vq, vi 1, vq, vi 1, vq, vi 1, vq, vi 1, vq, vi 1, vq, vq, vq, vi 2, vq, vi 1, vi 13, vi 1, vi 7] 59
abbrev hcl : AObj := .cells [vi 1, vq, vf, vf, vq, vf, vf, vq, vf, vf, vq, vf, vf, vq, vf, vf, vq, vf, vf, vq, vf, vf, vq, vf, vf, vq, vf, vf, vq, vf, vf, vq, vf, vf, vq, vf, vf, vq, vf, vf, vq, vf, vf, vq, vf, vf, vq, vf, vf, vq, vf, vf, vq, vf, vf, vq, vf, vf, vq, vf, vf, vq, vf, vf, vq, vf, vf, vq, vf, vf, vq, vf, vf, vq, vf, vf, vq, vf, vf, vq, vf, vf, vq, vf, vf, vq, vf, vf, vq, vf, vf, vq, vf, vf, vq, vf, vf, vq, vf, vf, vq, vf, vf, vq, vf, vf, vq, vf, vf, vq, vf, vf, vq, vf, vf, vq, vf, vf, vq, vf, vf, vq, vf, vf, vq, vf, vf, vq, vf, vf, vq, vf, vf, vq, vf, vf, vq, vf, vf, vq, vf, vf, vq, vf, vf, vq, vf, vf, vq, vf, vf, vq, vf, vf, vq, vf, vf, vq, vf, vf, vq, vf, vf, vq, vf, vf, vq, vf, vf, vq, vf, vf, vq, vf, vf, vq, vf, vf, vq, vf, vf, vq, vf, vf, vq, vf, vf, vq, vf, vf, vq, vf, vf, vi 400, vi 16, vi 64, vi 64, vi 1073741824, vi 1, vq, vp 4 0, vp 5 0, vp 6 0, vp 7 0] 147
abbrev hcm : AObj := .cells [vq, vq, vi 2, vq, vi 2, vq, vi 2, vq, vi 2, vq, vi 2, vq, vi 2, vq, vi 2, vq, vi 2, vq, vi 1, vq, vi 1, vq, vi 1, vq, vi 1, vq, vi 1, vq, vi 1, vq, vi 1, vq, vi 1, vq] 59
abbrev hcn : AObj := .cells [vq, vq, vi 2, vq, vi 2, vq, vi 2, vq, vi 2, vq, vi 2, vq, vi 2, vi 1048594, vi 2, vq, vi 2, vq, vi 1, vq, vi 1, vq, vi 1, vq, vi 1, vq, vi 1, vq, vi 1, vq, vi 1, vq, vi 1, vq, vq, vq, vi 2, vq, vi 1, vi 13, vi 1, vi 7] 59
abbrev hco : AObj := .cells [vi 2, vi 1048594, vi 1, vi 1, vq, vf, vq, vi 2, vi 1048594, vi 2, vi 1, vq, vf, vq, vi 2, vi 1048594, vq, vi 2, vq, vf, vq, vi 2, vi 1048594, vi (-1 : Int), vq, vq, vT, vi 1, vi 2, vi 1048577, vi 5, vi 2, vq, vf, vq] 365
abbrev hcp : AObj := .cells [vi 400, vs 9 0 21 21, vs 10 0 21 21, vn, vn, vn, vn, vn, vn, vn, vn, vn, vn, vn, vn, vn, vn, vn, vn, vn] 189
abbrev hcq : AObj := .cells [vp 2 0, vq, vs 13 0 20 20, Value.int .u32 (0 : Int), Value.int .i32 (0 : Int), Value.int .u32 (0 : Int), vn, vi 2, vi 1048577, vi 1, vi 13, vi 2, vi 1048594, vi 2, vq, vi 1, vq, vi 1, vq, vi 1, vi 7, vi 1, vq, vi 18, vn, vq, vq, vs 14 0 1 1, vp 15 0, vp 16 0, vi 4, vf, vn] 174
abbrev hcr : AObj := .cells [vi 1, vi 1, vT, vf, vq, vf, vf, vq, vf, vf, vq, vf, vf, vq, vf, vf, vq, vf, vf, vq, vf, vf, vq, vf, vf, vq, vf, vf, vq, vf, vf, vq, vf, vf, vq, vf, vf, vq, vf, vf, vq, vf, vf, vq, vf, vf, vq, vf, vf, vq, vf, vf, vq, vf, vf, vq, vf, vf, vq, vf, vf, vq, vf, vf, vq, vf, vf, vq, vf, vf, vq, vf, vf, vq, vf, vf, vq, vf, vf, vq, vf, vf, vq, vf, vf, vq, vf, vf, vq, vf, vf, vq, vf, vf, vq, vf, vf, vq, vf, vf, vq, vf, vf, vq, vf, vf, vq, vf, vf, vq, vf, vf, vq, vf, vf, vq, vf, vf, vq, vf, vf, vq, vf, vf, vq, vf, vf, vq, vf, vf, vq, vf, vf, vq, vf, vf, vq, vf, vf, vq, vf, vf, vq, vf, vf, vq, vf, vf, vq, vf, vf, vq, vf, vf, vq, vf, vf, vq, vf, vf, vq, vf, vf, vq, vf, vf, vq, vf, vf, vq, vf, vf, vq, vf, vf, vq, vf, vf, vq, vf, vf, vq, vf, vf, vq, vf, vf, vq, vf, vf, vq, vf, vf, vi 400, vi 16, vi 64, vi 64, vi 1073741824, vi 1, vq, vp 4 0, vp 5 0, vp 6 0, vp 7 0] 147
abbrev hcs : AObj := .cells [vi 1, vi 1, vT, vf, vq, vf, vf, vq, vf, vf, vq, vf, vf, vq, vf, vf, vq, vf, vf, vq, vf, vf, vq, vf, vf, vq, vf, vf, vq, vf, vf, vq, vf, vf, vq, vf, vf, vq, vf, vf, vq, vf, vf, vq, vf, vf, vq, vf, vf, vq, vf, vf, vq, vf, vf, vq, vf, vf, vq, vf, vf, vq, vf, vf, vq, vf, vf, vq, vf, vf, vq, vf, vf, vq, vf, vf, vq, vf, vf, vq, vf, vf, vq, vf, vf, vq, vf, vf, vq, vf, vf, vq, vf, vf, vq, vf, vf, vq, vf, vf, vq, vf, vf, vq, vf, vf, vq, vf, vf, vq, vf, vf, vq, vf, vf, vq, vf, vf, vq, vf, vf, vq, vf, vf, vq, vf, vf, vq, vf, vf, vq, vf, vf, vq, vf, vf, vq, vf, vf, vq, vf, vf, vq, vf, vf, vq, vf, vf, vq, vf, vf, vq, vf, vf, vq, vf, vf, vq, vf, vf, vq, vf, vf, vq, vf, vf, vq, vf, vf, vq, vf, vf, vq, vf, vf, vq, vf, vf, vq, vf, vf, vq, vf, vf, vq, vf, vf, vq, vf, vf, vq, vf, vf, vi 400, vi 16, vi 64, vi 64, vi 1073741824, vi 1, vq, vp 6 0, vp 7 0, vp 8 0, vp 9 0] 147
abbrev hct : AObj := .cells [vi 64, vs 22 0 1 1, Value.int .u32 (1 : Int), Value.int .i32 (0 : Int), Value.int .u32 (0 : Int), Value.map (some 23)] 254
abbrev hcu : AObj := .cells [vp 2 0, vq, vs 13 0 20 20, Value.int .u32 (0 : Int), Value.int .i32 (0 : Int), Value.int .u32 (0 : Int), vn, vi 2, vi 1048577, vi 1, vi 13, vi 2, vi 1048594, vi 2, vq, vi 1, vq, vi 1, vq, vi 1, vi 7, vi 1, vq, vi 16, vn, vq, vq, vs 14 0 1 1, vp 15 0, vp 16 0, vi 4, vf, vn] 174
abbrev hcv : AObj := .cells [vi 2, vi 1048577, vi 5, vi 2, vq, vi 2, vi 1048577, vi 5, vi 2, vq] 390
abbrev hcw : AObj := .cells [vp 2 0, vq, vs 13 0 20 20, Value.int .u32 (0 : Int), Value.int .i32 (0 : Int), Value.int .u32 (0 : Int), vn, vi 2, vi 1048577, vi 1, vi 13, vi 1, vq, vi 1, vq, vi 1, vq, vi 1, vq, vi 1, vi 7, vi 1, vq, vi 4, vn, vq, vq, vs 14 0 1 1, vp 15 0, vp 16 0, vi 4, vf, vn] 174
abbrev hcx : AObj := .cells [vi 400, vs 9 0 17 17, vs 10 0 17 17, vn, vn, vn, vn, vn, vn, vn, vn, vn, vn, vn, vn, vn, vn, vn, vn, vn] 189
abbrev hcy : AObj := .cells [vi 1, vi 2, vq, vq, vq, vq, vq, vq, vq, vq, vq, vq, vq, vq, vq, vq, vq, vq, vq, vq, vq, vq, vq, vq, vq, vq, vq, vq, vq, vq, vq, vq, vq, vq, vq, vq, vq, vq, vq, vq, vq, vq, vq, vq, vq, vq, vq, vq, vq, vq, vq, vq, vq, vq, vq, vq, vq, vq, vq, vq, vq, vq, vq, vq, vq] 203
abbrev hcz : AObj := .cells [vi 1, vq, vq, vq, vq, vq, vq, vq, vq, vq, vq, vq, vq, vq, vq, vq, vq, vq, vq, vq, vq, vq, vq, vq, vq, vq, vq, vq, vq, vq, vq, vq, vq, vq, vq, vq, vq, vq, vq, vq, vq, vq, vq, vq, vq, vq, vq, vq, vq, vq, vq, vq, vq, vq, vq, vq, vq, vq, vq, vq, vq, vq, vq, vq, vq] 203
abbrev Zgx : AObj := .cells [vi 64, vn, Value.int .u32 (0 : Int), Value.int .i32 (0 : Int), Value.int .u32 (0 : Int), Value.map none] 254
abbrev ZdO : AObj := .cells [vq, vi 1, vq, vq, vq, vq, vq, vq, vq, vq, vq, vq, vq, vq, vq, vq] 198
abbrev Zsk : AObj := .cells [vp 3 0, vq, vs 15 0 20 20, Value.int .u32 (0 : Int), Value.int .i32 (0 : Int), Value.int .u32 (0 : Int), vn, vi 2, vi 1048577, vi 1, vi 13, vi 2, vi 1048594, vi 2, vq, vi 1, vq, vi 1, vq, vi 1, vi 7, vi 1, vq, vi 19, vn, vq, vq, vs 16 0 1 1, vp 17 0, vp 18 0, vi 4, vf, vn] 174
abbrev ZaU : AObj := .cells [vs 11 0 16 16, vs 12 0 16 16] 195
abbrev hcae : AObj := .cells [vi 1, vq, vq, vq, vq, vq, vi 1, vq, vq, vq, vq, vq, vi 1, vq, vq, vq, vq, vq, vi 13, vq, vq, vq, vq, vi 4, vi 8, vq, vq, vq, vq, vi 4, vi 2, vq, vq, vq, vq, vi 4, vi 3, vq, vq, vq, vq, vi 4, vi 4, vq, vi 2, vi 1048577, vi 5, vi 4, vi 3, vq, vq, vq, vq, vi 4, vi 1, vq, vq, vq, vq, vq, vi 12, vq, vi 2, vi 1048594, vq, vi 4, vi 5, vq, vi 2, vi 1048594, vi 1, vi 4, vi 5, vq, vi 2, vi 1048594, vi 2, vi 4, vi 2, vq, vq, vq, vq, vi 4, vi 3, vq, vq, vq, vq, vi 4, vi 4, vq, vi 2, vi 1048577, vi 5, vi 4, vi 3, vq, vq, vq, vq, vi 4, vi 5, vq, vi 2, vi 1048594, vq, vi 4, vi 2, vq, vq, vq, vq, vi 4, vi 11, vq, vi 2, vi 1048594, vq, vi 4, vi 3, vq, vq, vq, vq, vi 4, vi 6, vq, vq, vq, vq, vi 4, vi 5, vq, vi 2, vi 1048577, vi 5, vi 4, vi 8, vq, vq, vq, vq, vi 4, vi 9, vq, vq, vq, vq, vi 4, vi 7, vq, vq, vq, vq, vi 4, vi 13, vq, vq, vq, vq, vi 4, vi 13, vq, vq, vq, vq, vi 4, vi 13, vq, vq, vq, vq, vi 4, vi 1, vq, vq, vq, vq, vq] 61
abbrev hcaf : AObj := .cells [vi 1, vq, vq, vq, vq, vq, vi 1, vq, vq, vq, vq, vq, vi 1, vq, vq, vq, vq, vq, vi 13, vq, vq, vq, vq, vi 4, vi 8, vq, vq, vq, vq, vi 4, vi 2, vq, vq, vq, vq, vi 4, vi 3, vq, vq, vq, vq, vi 4, vi 4, vq, vi 2, vi 1048577, vi 5, vi 4, vi 3, vq, vq, vq, vq, vi 4, vi 1, vq, vq, vq, vq, vq, vi 12, vq, vi 2, vi 1048594, vq, vi 4, vi 5, vq, vi 2, vi 1048594, vi 1, vi 4, vi 5, vq, vi 2, vi 1048594, vi 2, vi 4, vi 2, vq, vq, vq, vq, vi 4, vi 3, vq, vq, vq, vq, vi 4, vi 4, vq, vi 2, vi 1048577, vi 5, vi 4, vi 3, vq, vq, vq, vq, vi 4, vi 5, vq, vi 2, vi 1048594, vq, vi 4, vi 2, vq, vq, vq, vq, vi 4, vi 11, vq, vi 2, vi 1048594, vq, vi 4, vi 3, vq, vq, vq, vq, vi 4, vi 6, vq, vq, vq, vq, vi 4, vi 5, vq, vi 2, vi 1048577, vi 5, vi 4, vi 8, vq, vq, vq, vq, vi 4, vi 9, vq, vq, vq, vq, vi 4, vi 7, vq, vq, vq, vq, vi 4, vi 13, vq, vq, vq, vq, vi 4, vi 13, vq, vq, vq, vq, vi 4, vi 13, vq, vq, vq, vq, vi 4] 61
abbrev hcag : AObj := .cells [vi 1, vq, vq, vq, vq, vq, vi 1, vq, vq, vq, vq, vq, vi 1, vq, vq, vq, vq, vq, vi 13, vq, vq, vq, vq, vi 4, vi 8, vq, vq, vq, vq, vi 4, vi 2, vq, vq, vq, vq, vi 4, vi 3, vq, vq, vq, vq, vi 4, vi 4, vq, vi 2, vi 1048577, vi 5, vi 4, vi 3, vq, vq, vq, vq, vi 4, vi 1, vq, vq, vq, vq, vq, vi 12, vq, vi 2, vi 1048594, vq, vi 4, vi 5, vq, vi 2, vi 1048594, vi 1, vi 4, vi 5, vq, vi 2, vi 1048594, vi 2, vi 4, vi 2, vq, vq, vq, vq, vi 4, vi 3, vq, vq, vq, vq, vi 4, vi 4, vq, vi 2, vi 1048577, vi 5, vi 4, vi 3, vq, vq, vq, vq, vi 4, vi 5, vq, vi 2, vi 1048594, vq, vi 4, vi 2, vq, vq, vq, vq, vi 4, vi 11, vq, vi 2, vi 1048594, vq, vi 4, vi 3, vq, vq, vq, vq, vi 4, vi 6, vq, vq, vq, vq, vi 4, vi 5, vq, vi 2, vi 1048577, vi 5, vi 4, vi 8, vq, vq, vq, vq, vi 4, vi 9, vq, vq, vq, vq, vi 4, vi 7, vq, vq, vq, vq, vi 4, vi 13, vq, vq, vq, vq, vi 4, vi 13, vq, vq, vq, vq, vi 4] 61
abbrev hcah : AObj := .cells [vi 1, vq, vf, vf, vq, vf, vf, vq, vf, vf, vq, vf, vf, vq, vf, vf, vq, vf, vf, vq, vf, vf, vq, vf, vf, vq, vf, vf, vq, vf, vf, vq, vf, vf, vq, vf, vf, vq, vf, vf, vq, vf, vf, vq, vf, vf, vq, vf, vf, vq, vf, vf, vq, vf, vf, vq, vf, vf, vq, vf, vf, vq, vf, vf, vq, vf, vf, vq, vf, vf, vq, vf, vf, vq, vf, vf, vq, vf, vf, vq, vf, vf, vq, vf, vf, vq, vf, vf, vq, vf, vf, vq, vf, vf, vq, vf, vf, vq, vf, vf, vq, vf, vf, vq, vf, vf, vq, vf, vf, vq, vf, vf, vq, vf, vf, vq, vf, vf, vq, vf, vf, vq, vf, vf, vq, vf, vf, vq, vf, vf, vq, vf, vf, vq, vf, vf, vq, vf, vf, vq, vf, vf, vq, vf, vf, vq, vf, vf, vq, vf, vf, vq, vf, vf, vq, vf, vf, vq, vf, vf, vq, vf, vf, vq, vf, vf, vq, vf, vf, vq, vf, vf, vq, vf, vf, vq, vf, vf, vq, vf, vf, vq, vf, vf, vq, vf, vf, vq, vf, vf, vq, vf, vf, vi 400, vi 16, vi 64, vi 64, vi 1073741824, vi 1, vq, vp 3 0, vp 4 0, vp 5 0, vp 6 0] 147
abbrev Zaa : AObj := .cells [vi 2, vi 1048594] 59
abbrev hcaj : AObj := .cells [vi 1, vq, vq, vq, vq, vq, vi 1, vq, vq, vq, vq, vq, vi 1, vq, vq, vq, vq, vq, vi 13, vq, vq, vq, vq, vi 4, vi 8, vq, vq, vq, vq, vi 4, vi 2, vq, vq, vq, vq, vi 4, vi 3, vq, vq, vq, vq, vi 4, vi 4, vq, vi 2, vi 1048577, vi 5, vi 4, vi 3, vq, vq, vq, vq, vi 4, vi 1, vq, vq, vq, vq, vq, vi 12, vq, vi 2, vi 1048594, vq, vi 4, vi 5, vq, vi 2, vi 1048594, vi 1, vi 4, vi 5, vq, vi 2, vi 1048594, vi 2, vi 4, vi 2, vq, vq, vq, vq, vi 4, vi 3, vq, vq, vq, vq, vi 4, vi 4, vq, vi 2, vi 1048577, vi 5, vi 4, vi 3, vq, vq, vq, vq, vi 4, vi 5, vq, vi 2, vi 1048594, vq, vi 4, vi 2, vq, vq, vq, vq, vi 4, vi 11, vq, vi 2, vi 1048594, vq, vi 4, vi 3, vq, vq, vq, vq, vi 4, vi 6, vq, vq, vq, vq, vi 4, vi 5, vq, vi 2, vi 1048577, vi 5, vi 4, vi 8, vq, vq, vq, vq, vi 4, vi 9, vq, vq, vq, vq, vi 4, vi 7, vq, vq, vq, vq, vi 4, vi 13, vq, vq, vq, vq, vi 4] 61
abbrev hcak : AObj := .cells [vi 1, vq, vq, vq, vq, vq, vi 1, vq, vq, vq, vq, vq, vi 1, vq, vq, vq, vq, vq, vi 13, vq, vq, vq, vq, vi 4, vi 8, vq, vq, vq, vq, vi 4, vi 2, vq, vq, vq, vq, vi 4, vi 3, vq, vq, vq, vq, vi 4, vi 4, vq, vi 2, vi 1048577, vi 5, vi 4, vi 3, vq, vq, vq, vq, vi 4, vi 1, vq, vq, vq, vq, vq, vi 12, vq, vi 2, vi 1048594, vq, vi 4, vi 5, vq, vi 2, vi 1048594, vi 1, vi 4, vi 5, vq, vi 2, vi 1048594, vi 2, vi 4, vi 2, vq, vq, vq, vq, vi 4, vi 3, vq, vq, vq, vq, vi 4, vi 4, vq, vi 2, vi 1048577, vi 5, vi 4, vi 3, vq, vq, vq, vq, vi 4, vi 5, vq, vi 2, vi 1048594, vq, vi 4, vi 2, vq, vq, vq, vq, vi 4, vi 11, vq, vi 2, vi 1048594, vq, vi 4, vi 3, vq, vq, vq, vq, vi 4, vi 6, vq, vq, vq, vq, vi 4, vi 5, vq, vi 2, vi 1048577, vi 5, vi 4, vi 8, vq, vq, vq, vq, vi 4, vi 9, vq, vq, vq, vq, vi 4, vi 7, vq, vq, vq, vq, vi 4] 61
abbrev Zt2 : AObj := .cells [vi 1, vq, vq, vq, vq, vq, vi 1, vq, vq, vq, vq, vq, vi 1, vq, vq, vq, vq, vq, vi 13, vq, vq, vq, vq, vi 4, vi 8, vq, vq, vq, vq, vi 4, vi 2, vq, vq, vq, vq, vi 4, vi 3, vq, vq, vq, vq, vi 4, vi 4, vq, vi 2, vi 1048577, vi 5, vi 4, vi 3, vq, vq, vq, vq, vi 4, vi 1, vq, vq, vq, vq, vq, vi 12, vq, vi 2, vi 1048594, vq, vi 4, vi 5, vq, vi 2, vi 1048594, vi 1, vi 4, vi 5, vq, vi 2, vi 1048594, vi 2, vi 4, vi 2, vq, vq, vq, vq, vi 4, vi 3, vq, vq, vq, vq, vi 4, vi 4, vq, vi 2, vi 1048577, vi 5, vi 4, vi 3, vq, vq, vq, vq, vi 4, vi 5, vq, vi 2, vi 1048594, vq, vi 4, vi 2, vq, vq, vq, vq, vi 4, vi 11, vq, vi 2, vi 1048594, vq, vi 4, vi 3, vq, vq, vq, vq, vi 4, vi 6, vq, vq, vq, vq, vi 4, vi 5, vq, vi 2, vi 1048577, vi 5, vi 4, vi 8, vq, vq, vq, vq, vi 4, vi 9, vq, vq, vq, vq, vi 4] 61
abbrev hcam : AObj := .cells [vi 1, vq, vq, vq, vq, vq, vi 1, vq, vq, vq, vq, vq, vi 1, vq, vq, vq, vq, vq, vi 13, vq, vq, vq, vq, vi 4, vi 8, vq, vq, vq, vq, vi 4, vi 2, vq, vq, vq, vq, vi 4, vi 3, vq, vq, vq, vq, vi 4, vi 4, vq, vi 2, vi 1048577, vi 5, vi 4, vi 3, vq, vq, vq, vq, vi 4, vi 1, vq, vq, vq, vq, vq, vi 12, vq, vi 2, vi 1048594, vq, vi 4, vi 5, vq, vi 2, vi 1048594, vi 1, vi 4, vi 5, vq, vi 2, vi 1048594, vi 2, vi 4, vi 2, vq, vq, vq, vq, vi 4, vi 3, vq, vq, vq, vq, vi 4, vi 4, vq, vi 2, vi 1048577, vi 5, vi 4, vi 3, vq, vq, vq, vq, vi 4, vi 5, vq, vi 2, vi 1048594, vq, vi 4, vi 2, vq, vq, vq, vq, vi 4, vi 11, vq, vi 2, vi 1048594, vq, vi 4, vi 3, vq, vq, vq, vq, vi 4, vi 6, vq, vq, vq, vq, vi 4, vi 5, vq, vi 2, vi 1048577, vi 5, vi 4, vi 8, vq, vq, vq, vq, vi 4] 61
abbrev ZuV : AObj := .cells [vf, vf, vq, vq, vq, vq, vn, vn, vn, vq, vq, vq, vq, vq, vq, vq, vq, vq, vq, Value.nilFunc, Value.nilFunc, Value.nilFunc, vq, vq, vq, vq, vf, vq, vq, vq, vn, vq, Value.nilFunc, vq, vq, vq, vn, vq, vq, vq, vp 2 0, vq, Value.nilFunc, vq, vf, vq, vp 16 0, vp 17 0, vp 18 0, vn, vq, vq, vq] 226
abbrev hcao : AObj := .cells [vi 1, vq, vq, vq, vq, vq, vi 1, vq, vq, vq, vq, vq, vi 1, vq, vq, vq, vq, vq, vi 13, vq, vq, vq, vq, vi 4, vi 8, vq, vq, vq, vq, vi 4, vi 2, vq, vq, vq, vq, vi 4, vi 3, vq, vq, vq, vq, vi 4, vi 4, vq, vi 2, vi 1048577, vi 5, vi 4, vi 3, vq, vq, vq, vq, vi 4, vi 1, vq, vq, vq, vq, vq, vi 12, vq, vi 2, vi 1048594, vq, vi 4, vi 5, vq, vi 2, vi 1048594, vi 1, vi 4, vi 5, vq, vi 2, vi 1048594, vi 2, vi 4, vi 2, vq, vq, vq, vq, vi 4, vi 3, vq, vq, vq, vq, vi 4, vi 4, vq, vi 2, vi 1048577, vi 5, vi 4, vi 3, vq, vq, vq, vq, vi 4, vi 5, vq, vi 2, vi 1048594, vq, vi 4, vi 2, vq, vq, vq, vq, vi 4, vi 11, vq, vi 2, vi 1048594, vq, vi 4, vi 3, vq, vq, vq, vq, vi 4, vi 6, vq, vq, vq, vq, vi 4, vi 5, vq, vi 2, vi 1048577, vi 5, vi 4] 61
abbrev Zjj : AObj := .cells [vq, vq, vq, vq, vq, vq, vq, vq, vq, vq, vq, vq, vq, vq, vq, vq, vn, vq, vf, vf, vq, vq, vq, vq, vp 3 0, vq, Value.nilFunc] 235
abbrev Zb1 : AObj := .cells [vi 1073741824, vq, vi 1] 200
abbrev ZuW : AObj := .cells [vp 2 0, vq, vs 13 0 20 20, Value.int .u32 (0 : Int), Value.int .i32 (0 : Int), Value.int .u32 (0 : Int), vn, vi 2, vi 1048577, vi 1, vi 13, vi 2, vi 1048594, vi 2, vq, vi 1, vq, vi 1, vq, vi 1, vi 7, vi 1, vq, vi 19, vn, vq, vq, vs 14 0 1 1, vp 15 0, vp 16 0, vi 4, vf, vn] 174
abbrev hcas : AObj := .cells [vi 1, vq, vq, vq, vq, vq, vi 1, vq, vq, vq, vq, vq, vi 1, vq, vq, vq, vq, vq, vi 13, vq, vq, vq, vq, vi 4, vi 8, vq, vq, vq, vq, vi 4, vi 2, vq, vq, vq, vq, vi 4, vi 3, vq, vq, vq, vq, vi 4, vi 4, vq, vi 2, vi 1048577, vi 5, vi 4, vi 3, vq, vq, vq, vq, vi 4, vi 1, vq, vq, vq, vq, vq, vi 12, vq, vi 2, vi 1048594, vq, vi 4, vi 5, vq, vi 2, vi 1048594, vi 1, vi 4, vi 5, vq, vi 2, vi 1048594, vi 2, vi 4, vi 2, vq, vq, vq, vq, vi 4, vi 3, vq, vq, vq, vq, vi 4, vi 4, vq, vi 2, vi 1048577, vi 5, vi 4, vi 3, vq, vq, vq, vq, vi 4, vi 5, vq, vi 2, vi 1048594, vq, vi 4, vi 2, vq, vq, vq, vq, vi 4, vi 11, vq, vi 2, vi 1048594, vq, vi 4, vi 3, vq, vq, vq, vq, vi 4, vi 6, vq, vq, vq, vq, vi 4] 61
abbrev hcat : AObj := .cells [vi 1, vq, vq, vq, vq, vq, vi 1, vq, vq, vq, vq, vq, vi 1, vq, vq, vq, vq, vq, vi 13, vq, vq, vq, vq, vi 4, vi 8, vq, vq, vq, vq, vi 4, vi 2, vq, vq, vq, vq, vi 4, vi 3, vq, vq, vq, vq, vi 4, vi 4, vq, vi 2, vi 1048577, vi 5, vi 4, vi 3, vq, vq, vq, vq, vi 4, vi 1, vq, vq, vq, vq, vq, vi 12, vq, vi 2, vi 1048594, vq, vi 4, vi 5, vq, vi 2, vi 1048594, vi 1, vi 4, vi 5, vq, vi 2, vi 1048594, vi 2, vi 4, vi 2, vq, vq, vq, vq, vi 4, vi 3, vq, vq, vq, vq, vi 4, vi 4, vq, vi 2, vi 1048577, vi 5, vi 4, vi 3, vq, vq, vq, vq, vi 4, vi 5, vq, vi 2, vi 1048594, vq, vi 4, vi 2, vq, vq, vq, vq, vi 4, vi 11, vq, vi 2, vi 1048594, vq, vi 4, vi 3, vq, vq, vq, vq, vi 4] 61
abbrev Zab : AObj := .cells [vi 1, vq] 268
abbrev Znn : AObj := .cells [vi 64, vs 23 0 1 1, Value.int .u32 (1 : Int), Value.int .i32 (0 : Int), Value.int .u32 (0 : Int), Value.map (some 24)] 254
abbrev Zlh : AObj := .cells [vi 400, vs 11 0 21 21, vs 12 0 21 21, vn, vn, vn, vn, vn, vn, vn, vn, vn, vn, vn, vn, vn, vn, vn, vn, vn] 189
abbrev hcax : AObj := .cells [vi 1, vq, vq, vq, vq, vq, vi 1, vq, vq, vq, vq, vq, vi 1, vq, vq, vq, vq, vq, vi 13, vq, vq, vq, vq, vi 4, vi 8, vq, vq, vq, vq, vi 4, vi 2, vq, vq, vq, vq, vi 4, vi 3, vq, vq, vq, vq, vi 4, vi 4, vq, vi 2, vi 1048577, vi 5, vi 4, vi 3, vq, vq, vq, vq, vi 4, vi 1, vq, vq, vq, vq, vq, vi 12, vq, vi 2, vi 1048594, vq, vi 4, vi 5, vq, vi 2, vi 1048594, vi 1, vi 4, vi 5, vq, vi 2, vi 1048594, vi 2, vi 4, vi 2, vq, vq, vq, vq, vi 4, vi 3, vq, vq, vq, vq, vi 4, vi 4, vq, vi 2, vi 1048577, vi 5, vi 4, vi 3, vq, vq, vq, vq, vi 4, vi 5, vq, vi 2, vi 1048594, vq, vi 4, vi 2, vq, vq, vq, vq, vi 4, vi 11, vq, vi 2, vi 1048594, vq, vi 4] 61
abbrev hcay : AObj := .cells [vi 1, vq, vq, vq, vq, vq, vi 1, vq, vq, vq, vq, vq, vi 1, vq, vq, vq, vq, vq, vi 13, vq, vq, vq, vq, vi 4, vi 8, vq, vq, vq, vq, vi 4, vi 2, vq, vq, vq, vq, vi 4, vi 3, vq, vq, vq, vq, vi 4, vi 4, vq, vi 2, vi 1048577, vi 5, vi 4, vi 3, vq, vq, vq, vq, vi 4, vi 1, vq, vq, vq, vq, vq, vi 12, vq, vi 2, vi 1048594, vq, vi 4, vi 5, vq, vi 2, vi 1048594, vi 1, vi 4, vi 5, vq, vi 2, vi 1048594, vi 2, vi 4, vi 2, vq, vq, vq, vq, vi 4, vi 3, vq, vq, vq, vq, vi 4, vi 4, vq, vi 2, vi 1048577, vi 5, vi 4, vi 3, vq, vq, vq, vq, vi 4, vi 5, vq, vi 2, vi 1048594, vq, vi 4, vi 2, vq, vq, vq, vq, vi 4] 61
abbrev ZoE : AObj := .cells [vi 64, vs 24 0 1 1, Value.int .u32 (1 : Int), Value.int .i32 (0 : Int), Value.int .u32 (0 : Int), Value.map (some 25)] 254
abbrev hcba : AObj := .cells [vi 1, vq, vq, vq, vq, vq, vi 1, vq, vq, vq, vq, vq, vi 1, vq, vq, vq, vq, vq, vi 13, vq, vq, vq, vq, vi 4, vi 8, vq, vq, vq, vq, vi 4, vi 2, vq, vq, vq, vq, vi 4, vi 3, vq, vq, vq, vq, vi 4, vi 4, vq, vi 2, vi 1048577, vi 5, vi 4, vi 3, vq, vq, vq, vq, vi 4, vi 1, vq, vq, vq, vq, vq, vi 12, vq, vi 2, vi 1048594, vq, vi 4, vi 5, vq, vi 2, vi 1048594, vi 1, vi 4, vi 5, vq, vi 2, vi 1048594, vi 2, vi 4, vi 2, vq, vq, vq, vq, vi 4, vi 3, vq, vq, vq, vq, vi 4, vi 4, vq, vi 2, vi 1048577, vi 5, vi 4, vi 3, vq, vq, vq, vq, vi 4, vi 5, vq, vi 2, vi 1048594, vq, vi 4] 61
abbrev Zt3 : AObj := .cells [vi 2, vi 1048594, vi 1, vi 1, vq, vf, vq, vi 2, vi 1048594, vi 2, vi 1, vq, vf, vq, vi 2, vi 1048594, vq, vi 2, vq, vf, vq, vi 2, vi 1048594, vi (-1 : Int), vq, vq, vT, vi 1] 365
abbrev hcbc : AObj := .cells [vi 1, vq, vq, vq, vq, vq, vi 1, vq, vq, vq, vq, vq, vi 1, vq, vq, vq, vq, vq, vi 13, vq, vq, vq, vq, vi 4, vi 8, vq, vq, vq, vq, vi 4, vi 2, vq, vq, vq, vq, vi 4, vi 3, vq, vq, vq, vq, vi 4, vi 4, vq, vi 2, vi 1048577, vi 5, vi 4, vi 3, vq, vq, vq, vq, vi 4, vi 1, vq, vq, vq, vq, vq, vi 12, vq, vi 2, vi 1048594, vq, vi 4, vi 5, vq, vi 2, vi 1048594, vi 1, vi 4, vi 5, vq, vi 2, vi 1048594, vi 2, vi 4, vi 2, vq, vq, vq, vq, vi 4, vi 3, vq, vq, vq, vq, vi 4, vi 4, vq, vi 2, vi 1048577, vi 5, vi 4, vi 3, vq, vq, vq, vq, vi 4] 61
abbrev hcbd : AObj := .cells [vi 1, vq, vq, vq, vq, vq, vi 1, vq, vq, vq, vq, vq, vi 1, vq, vq, vq, vq, vq, vi 13, vq, vq, vq, vq, vi 4, vi 8, vq, vq, vq, vq, vi 4, vi 2, vq, vq, vq, vq, vi 4, vi 3, vq, vq, vq, vq, vi 4, vi 4, vq, vi 2, vi 1048577, vi 5, vi 4, vi 3, vq, vq, vq, vq, vi 4, vi 1, vq, vq, vq, vq, vq, vi 12, vq, vi 2, vi 1048594, vq, vi 4, vi 5, vq, vi 2, vi 1048594, vi 1, vi 4, vi 5, vq, vi 2, vi 1048594, vi 2, vi 4, vi 2, vq, vq, vq, vq, vi 4, vi 3, vq, vq, vq, vq, vi 4, vi 4, vq, vi 2, vi 1048577, vi 5, vi 4] 61
abbrev Zno : AObj := .cells [vi 2, vi 1048594, vi 1, vi 1, vq, vf, vq, vi 2, vi 1048594, vi 2, vi 1, vq, vf, vq] 365
abbrev hcbf : AObj := .cells [vi 1, vq, vq, vq, vq, vq, vi 1, vq, vq, vq, vq, vq, vi 1, vq, vq, vq, vq, vq, vi 13, vq, vq, vq, vq, vi 4, vi 8, vq, vq, vq, vq, vi 4, vi 2, vq, vq, vq, vq, vi 4, vi 3, vq, vq, vq, vq, vi 4, vi 4, vq, vi 2, vi 1048577, vi 5, vi 4, vi 3, vq, vq, vq, vq, vi 4, vi 1, vq, vq, vq, vq, vq, vi 12, vq, vi 2, vi 1048594, vq, vi 4, vi 5, vq, vi 2, vi 1048594, vi 1, vi 4, vi 5, vq, vi 2, vi 1048594, vi 2, vi 4, vi 2, vq, vq, vq, vq, vi 4, vi 3, vq, vq, vq, vq, vi 4] 61
abbrev hcbg : AObj := .cells [vi 1, vq, vq, vq, vq, vq, vi 1, vq, vq, vq, vq, vq, vi 1, vq, vq, vq, vq, vq, vi 13, vq, vq, vq, vq, vi 4, vi 8, vq, vq, vq, vq, vi 4, vi 2, vq, vq, vq, vq, vi 4, vi 3, vq, vq, vq, vq, vi 4, vi 4, vq, vi 2, vi 1048577, vi 5, vi 4, vi 3, vq, vq, vq, vq, vi 4, vi 1, vq, vq, vq, vq, vq, vi 12, vq, vi 2, vi 1048594, vq, vi 4, vi 5, vq, vi 2, vi 1048594, vi 1, vi 4, vi 5, vq, vi 2, vi 1048594, vi 2, vi 4, vi 2, vq, vq, vq, vq, vi 4] 61
abbrev ZaV : AObj := .cells [vp 8 0] 93
abbrev Zbn : AObj := .cells [vT, vn] 261
abbrev hcbj : AObj := .cells [vi 1, vq, vq, vq, vq, vq, vi 1, vq, vq, vq, vq, vq, vi 1, vq, vq, vq, vq, vq, vi 13, vq, vq, vq, vq, vi 4, vi 8, vq, vq, vq, vq, vi 4, vi 2, vq, vq, vq, vq, vi 4, vi 3, vq, vq, vq, vq, vi 4, vi 4, vq, vi 2, vi 1048577, vi 5, vi 4, vi 3, vq, vq, vq, vq, vi 4, vi 1, vq, vq, vq, vq, vq, vi 12, vq, vi 2, vi 1048594, vq, vi 4, vi 5, vq, vi 2, vi 1048594, vi 1, vi 4, vi 5, vq, vi 2, vi 1048594, vi 2, vi 4] 61
abbrev Znp : AObj := .cells [vq, vi 4, vq, vq, vq, vq, vq, vq, vq, vq, vq, vq, vq, vq, vq, vq] 198
abbrev hcbl : AObj := .cells [vi 1, vq, vq, vq, vq, vq, vi 1, vq, vq, vq, vq, vq, vi 1, vq, vq, vq, vq, vq, vi 13, vq, vq, vq, vq, vi 4, vi 8, vq, vq, vq, vq, vi 4, vi 2, vq, vq, vq, vq, vi 4, vi 3, vq, vq, vq, vq, vi 4, vi 4, vq, vi 2, vi 1048577, vi 5, vi 4, vi 3, vq, vq, vq, vq, vi 4, vi 1, vq, vq, vq, vq, vq, vi 12, vq, vi 2, vi 1048594, vq, vi 4, vi 5, vq, vi 2, vi 1048594, vi 1, vi 4] 61
abbrev Zhk : AObj := .cells [vi 2, vi 1048577, vi 5, vi 2, vq] 390
abbrev Zli : AObj := .cells [vi 2, vq, vi 3, vi 4, vi 24, vi 25, vs 5 0 1 1, vq] 100
abbrev hcbo : AObj := .cells [vi 1, vq, vq, vq, vq, vq, vi 1, vq, vq, vq, vq, vq, vi 1, vq, vq, vq, vq, vq, vi 13, vq, vq, vq, vq, vi 4, vi 8, vq, vq, vq, vq, vi 4, vi 2, vq, vq, vq, vq, vi 4, vi 3, vq, vq, vq, vq, vi 4, vi 4, vq, vi 2, vi 1048577, vi 5, vi 4, vi 3, vq, vq, vq, vq, vi 4, vi 1, vq, vq, vq, vq, vq, vi 12, vq, vi 2, vi 1048594, vq, vi 4] 61
abbrev hcbp : AObj := .cells [vT, vf, vq, vi 4, vi 5, vq, vn, vn, vn, vq, vq, vq, vq, vq, vq, vq, vq, vq, vq, Value.nilFunc, Value.nilFunc, Value.nilFunc, vq, vq, vq, vq, vf, vq, vq, vq, vn, vq, Value.nilFunc, vq, vq, vq, vn, vq, vq, vq, vp 2 0, vq, Value.nilFunc, vq, vf, vi 1, vp 17 0, vp 18 0, vp 19 0, vn, vq, vq, vq] 226
abbrev hcbq : AObj := .cells [vf, vf, vq, vq, vq, vq, vn, vn, vn, vq, vq, vq, vq, vq, vq, vq, vq, vq, vq, Value.nilFunc, Value.nilFunc, Value.nilFunc, vq, vq, vq, vq, vf, vq, vq, vq, vn, vq, Value.nilFunc, vq, vq, vq, vn, vq, vq, vq, vp 1 0, vq, Value.nilFunc, vq, vf, vq, vp 15 0, vp 16 0, vp 17 0, vn, vq, vq, vq] 226
abbrev hcbr : AObj := .cells [vi 1, vq, vq, vq, vq, vq, vi 1, vq, vq, vq, vq, vq, vi 1, vq, vq, vq, vq, vq, vi 13, vq, vq, vq, vq, vi 4, vi 8, vq, vq, vq, vq, vi 4, vi 2, vq, vq, vq, vq, vi 4, vi 3, vq, vq, vq, vq, vi 4, vi 4, vq, vi 2, vi 1048577, vi 5, vi 4, vi 3, vq, vq, vq, vq, vi 4, vi 1, vq, vq, vq, vq, vq] 61
abbrev hcbs : AObj := .cells [vp 2 0, vq, vs 13 0 20 20, Value.int .u32 (0 : Int), Value.int .i32 (0 : Int), Value.int .u32 (0 : Int), vn, vi 2, vi 1048577, vi 1, vi 13, vi 2, vi 1048594, vi 2, vq, vi 1, vq, vi 1, vq, vi 1, vi 7, vi 1, vq, vi 14, vn, vq, vq, vs 14 0 1 1, vp 15 0, vp 16 0, vi 4, vf, vn] 174
abbrev hcbt : AObj := .cells [vp 2 0, vq, vs 13 0 20 20, Value.int .u32 (0 : Int), Value.int .i32 (0 : Int), Value.int .u32 (0 : Int), vn, vi 2, vi 1048577, vi 1, vi 13, vi 2, vi 1048594, vi 2, vq, vi 1, vq, vi 1, vq, vi 1, vi 7, vi 1, vq, vi 15, vn, vq, vq, vs 14 0 1 1, vp 15 0, vp 16 0, vi 4, vf, vn] 174
abbrev hcbu : AObj := .cells [vp 2 0, vq, vs 13 0 20 20, Value.int .u32 (0 : Int), Value.int .i32 (0 : Int), Value.int .u32 (0 : Int), vn, vi 2, vi 1048577, vi 1, vi 13, vi 2, vi 1048594, vi 2, vq, vi 1, vq, vi 1, vq, vi 1, vi 7, vi 1, vq, vi 17, vn, vq, vq, vs 14 0 1 1, vp 15 0, vp 16 0, vi 4, vf, vn] 174
abbrev hcbv : AObj := .cells [vp 2 0, vq, vs 13 0 20 20, Value.int .u32 (0 : Int), Value.int .i32 (0 : Int), Value.int .u32 (0 : Int), vn, vi 2, vi 1048577, vi 1, vi 13, vi 1, vq, vi 2, vq, vi 1, vq, vi 1, vq, vi 1, vi 7, vi 1, vq, vi 13, vn, vq, vq, vs 14 0 1 1, vp 15 0, vp 16 0, vi 4, vf, vn] 174
abbrev hcbw : AObj := .cells [vp 2 0, vq, vs 13 0 20 20, Value.int .u32 (0 : Int), Value.int .i32 (0 : Int), Value.int .u32 (0 : Int), vn, vi 2, vi 1048577, vi 1, vi 13, vi 1, vq, vi 2, vq, vi 1, vq, vi 1, vq, vi 1, vi 7, vi 1, vq, vi 5, vn, vq, vq, vs 14 0 1 1, vp 15 0, vp 16 0, vi 4, vf, vn] 174
abbrev hcbx : AObj := .cells [vp 3 0, vq, vs 15 0 20 20, Value.int .u32 (0 : Int), Value.int .i32 (0 : Int), Value.int .u32 (0 : Int), vn, vi 2, vi 1048577, vi 1, vi 13, vi 2, vi 1048594, vi 2, vq, vi 1, vq, vi 1, vq, vi 1, vi 7, vi 1, vq, vi 20, vn, vi 2, vq, vn, vp 16 0, vp 17 0, vq, vf, vn] 174
abbrev Zwr : AObj := .cells [vi 2, vi 1048594, vi 1, vi 1, vq, vf, vq, vi 2, vi 1048594, vi 2, vi 1, vq, vf, vq, vi 2, vi 1048594, vq, vi 2, vq, vf, vq] 365
abbrev hcbz : AObj := .cells [vi 1, vq, vq, vq, vq, vq, vi 1, vq, vq, vq, vq, vq, vi 1, vq, vq, vq, vq, vq, vi 13, vq, vq, vq, vq, vi 4, vi 8, vq, vq, vq, vq, vi 4, vi 2, vq, vq, vq, vq, vi 4, vi 3, vq, vq, vq, vq, vi 4, vi 4, vq, vi 2, vi 1048577, vi 5, vi 4, vi 3, vq, vq, vq, vq, vi 4] 61
abbrev Ziz : AObj := .cells [vi 1073741824, vi 1, vi 1] 200
abbrev hccb : AObj := .cells [vp 2 0, vq, vs 13 0 20 20, Value.int .u32 (0 : Int), Value.int .i32 (0 : Int), Value.int .u32 (0 : Int), vn, vi 2, vi 1048577, vi 1, vi 13, vi 1, vq, vi 1, vq, vi 1, vq, vi 1, vq, vi 1, vi 7, vi 1, vq, vi 3, vn, vq, vq, vn, vp 14 0, vp 15 0, vq, vf, vn] 174
abbrev Ze6 : AObj := .cells [vi 64, vn] 257
abbrev hccd : AObj := .cells [vp 2 0, vq, vs 13 0 20 20, Value.int .u32 (0 : Int), Value.int .i32 (0 : Int), Value.int .u32 (0 : Int), vn, vi 2, vi 1048577, vi 1, vi 13, vi 1, vq, vi 1, vq, vi 1, vq, vi 1, vq, vi 1, vq, vi 1, vq, vi 2, vn, vq, vq, vn, vp 14 0, vp 15 0, vq, vf, vn] 174
abbrev Zws : AObj := .cells [vi 64, vs 21 0 1 1, Value.int .u32 (1 : Int), Value.int .i32 (0 : Int), Value.int .u32 (0 : Int), Value.map (some 22)] 254
abbrev hccf : AObj := .cells [vi 1, vq, vq, vq, vq, vq, vi 1, vq, vq, vq, vq, vq, vi 1, vq, vq, vq, vq, vq, vi 13, vq, vq, vq, vq, vi 4, vi 8, vq, vq, vq, vq, vi 4, vi 2, vq, vq, vq, vq, vi 4, vi 3, vq, vq, vq, vq, vi 4, vi 4, vq, vi 2, vi 1048577, vi 5, vi 4] 61
abbrev Zlj : AObj := .cells [vs 13 0 16 16, vs 14 0 16 16] 195
abbrev hcch : AObj := .cells [vq, vq, vi 2, vq, vi 2, vq, vi 2, vq, vi 2, vq, vi 2, vq, vi 2, vq, vi 2, vq, vi 2, vq, vi 1, vq, vi 1, vq, vi 1, vq, vi 1, vq, vi 1, vq, vi 1, vq, vi 1, vq, vi 1, vq, vq, vq, vi 2, vq, vi 1, vi 13, vi 1, vq] 59
abbrev hcci : AObj := .cells [vq, vq, vi 2, vq, vi 2, vq, vi 2, vq, vi 2, vq, vi 2, vq, vi 2, vq, vi 2, vq, vi 2, vq, vi 1, vq, vi 1, vq, vi 1, vq, vi 1, vq, vi 1, vq, vi 1, vq, vi 1, vq, vi 1, vq, vq, vq, vi 2, vq, vi 1, vq, vi 1, vq] 59
abbrev hccj : AObj := .cells [vi 1, vq, vq, vq, vq, vq, vi 1, vq, vq, vq, vq, vq, vi 1, vq, vq, vq, vq, vq, vi 13, vq, vq, vq, vq, vi 4, vi 8, vq, vq, vq, vq, vi 4, vi 2, vq, vq, vq, vq, vi 4, vi 3, vq, vq, vq, vq, vi 4] 61
abbrev hcck : AObj := .cells [vi 1, vq, vq, vq, vq, vq, vi 1, vq, vq, vq, vq, vq, vi 1, vq, vq, vq, vq, vq, vi 13, vq, vq, vq, vq, vi 4, vi 8, vq, vq, vq, vq, vi 4, vi 2, vq, vq, vq, vq, vi 4] 61
abbrev hccl : AObj := .cells [vi 1, vq, vq, vq, vq, vq, vi 1, vq, vq, vq, vq, vq, vi 1, vq, vq, vq, vq, vq, vi 13, vq, vq, vq, vq, vi 4, vi 8, vq, vq, vq, vq, vi 4] 61
abbrev ZoF : AObj := .cells [vi 64, vs 24 0 2 2] 257
abbrev ZoG : AObj := .cells [vi 64, vs 26 0 5 5] 257
abbrev Zq1 : AObj := .cells [vi 1073741824, vq, vq] 200
abbrev hccp : AObj := .cells [vq, vq, vq, vq, vq, vq, vq, vq, vq, vq, vq, vq, vq, vq, vq, vq, vn, vq, vf, vf, vq, vq, vq, vq, vp 1 0, vq, Value.nilFunc] 235
abbrev hccq : AObj := .cells [vi 64, vs 25 0 1 1, Value.int .u32 (1 : Int), Value.int .i32 (0 : Int), Value.int .u32 (0 : Int), Value.map (some 26)] 254
abbrev hccr : AObj := .cells [vi 1, vq, vq, vq, vq, vq, vi 1, vq, vq, vq, vq, vq, vi 1, vq, vq, vq, vq, vq, vi 13, vq, vq, vq, vq, vi 4] 61
abbrev hccs : AObj := .cells [vi 400, vs 8 0 17 17, vs 9 0 17 17, vn, vn, vn, vn, vn, vn, vn, vn, vn, vn, vn, vn, vn, vn, vn, vn, vn] 189
abbrev Zq2 : AObj := .cells [vT, vs 27 0 0 1] 261
abbrev Zlk : AObj := .cells [vp 10 0] 93
abbrev hccv : AObj := .cells [vi 1, vq, vq, vq, vq, vq, vi 1, vq, vq, vq, vq, vq, vi 1, vq, vq, vq, vq, vq] 61
abbrev ZuX : AObj := .cells [vi 64, vs 25 0 4 4] 257
abbrev Zwt : AObj := .cells [vT, vs 26 0 1 1] 261
noncomputable def Zq3  : Z5 → Value
 | .r0 => vT
noncomputable def Zpo  : Z5 → List (Option AObj)
 | .r0 => []

def ZtZ : Zd → Nat
 | .h1m0 => 1
 | .h1m1 => 1
 | .h1m2 => 1
 | .h1m3 => 1
 | .h1m4 => 1
 | .h1m5 => 1
 | .h1m6 => 1
 | .h1m7 => 1
 | .h1m8 => 1
 | .h1m9 => 1
 | .h1m10 => 1
 | .h1m11 => 1
 | .h1m12 => 1
 | .h1m13 => 1
 | .h1m14 => 1
 | .h1m15 => 1
 | .h1m16 => 1
 | .h1m17 => 1
 | .h1m18 => 1
 | .h1m19 => 1
 | .h1m20 => 1
 | .h1m21 => 1
 | .h1m22 => 1
 | .h1m23 => 1
 | .h1m24 => 1
 | .h1m25 => 1
 | .h1m26 => 1
 | .h1m27 => 1
 | .h1m28 => 1
 | .h1m29 => 1
 | .h1m30 => 1
noncomputable def ZuY  : Zd → List (Nat × Value)
 | .h1m0 => [(3, vp 0 0), (7, vq)]
 | .h1m1 => [(3, vp 0 0), (7, vi 1)]
 | .h1m2 => [(3, vp 0 0), (7, vi 2)]
 | .h1m3 => [(3, vp 0 0), (7, vi 3)]
 | .h1m4 => [(3, vp 0 0), (7, vi 4)]
 | .h1m5 => [(3, vp 0 0), (7, vi 5)]
 | .h1m6 => [(3, vp 0 0), (7, vi 6)]
 | .h1m7 => [(3, vp 0 0), (7, vi 7)]
 | .h1m8 => [(3, vp 0 0), (7, vi 8)]
 | .h1m9 => [(3, vp 0 0), (7, vi 9)]
 | .h1m10 => [(3, vp 0 0), (7, vi 10)]
 | .h1m11 => [(3, vp 0 0), (7, vi 11)]
 | .h1m12 => [(3, vp 0 0), (7, vi 12)]
 | .h1m13 => [(3, vp 0 0), (7, vi 13)]
 | .h1m14 => [(3, vp 0 0), (7, vi 14)]
 | .h1m15 => [(3, vp 0 0), (7, vi 15)]
 | .h1m16 => [(3, vp 0 0), (7, vi 16)]
 | .h1m17 => [(3, vp 0 0), (7, vi 17)]
 | .h1m18 => [(3, vp 0 0), (7, vi 18)]
 | .h1m19 => [(3, vp 0 0), (7, vi 19)]
 | .h1m20 => [(3, vp 0 0), (7, vi 20)]
 | .h1m21 => [(3, vp 0 0), (7, vi 21)]
 | .h1m22 => [(3, vp 0 0), (7, vi 22)]
 | .h1m23 => [(3, vp 0 0), (7, vi 23)]
 | .h1m24 => [(3, vp 0 0), (7, vi 24)]
 | .h1m25 => [(3, vp 0 0), (7, vi 25)]
 | .h1m26 => [(3, vp 0 0), (7, vi 26)]
 | .h1m27 => [(3, vp 0 0), (7, vi 27)]
 | .h1m28 => [(3, vp 0 0), (7, vi 28)]
 | .h1m29 => [(3, vp 0 0), (7, vi 29)]
 | .h1m30 => [(3, vp 0 0), (7, vi 30)]
noncomputable def ZuZ  : Zd → List (Option AObj)
 | .h1m0 => [some (.cells [vn, vn, vp 1 0, vs 2 0 1 1] 92), some (hcah), some (.cells [vp 7 0] 93), some (hccs), some (.cells [vs 10 0 16 16, vs 11 0 16 16] 195), some (Zq1), some (hcz), some (.cells [vp 1 0, vq, vs 12 0 20 20, Value.int .u32 (0 : Int), Value.int .i32 (0 : Int), Value.int .u32 (0 : Int), vn, vi 1, vq, vi 1, vq, vi 1, vq, vi 1, vq, vi 1, vq, vi 1, vq, vi 1, vq, vi 1, vq, vq, vn, vq, vq, vn, vp 13 0, vp 14 0, vq, vf, vn] 174), some (hcf), some (hcm), some (hch), some (hch), some (hcb), some (hcbq), some (hccp), some (Zgx), some (Ze6), some (Zbn)]
 | .h1m1 => [some (.cells [vs 1 0 1 1, vn, vp 2 0, vs 3 0 1 1] 92), some (.cells [vi 1, vq, vq, vq, vq, vq] 61), some (hcl), some (ZaV), some (hcx), some (ZaU), some (Zq1), some (hcz), some (.cells [vp 2 0, vq, vs 13 0 20 20, Value.int .u32 (0 : Int), Value.int .i32 (0 : Int), Value.int .u32 (0 : Int), vn, vi 2, vi 1048577, vi 1, vq, vi 1, vq, vi 1, vq, vi 1, vq, vi 1, vq, vi 1, vq, vi 1, vq, vi 1, vn, vq, vq, vn, vp 14 0, vp 15 0, vq, vf, vn] 174), some (hcf), some (hcm), some (hch), some (hch), some (hcb), some (ZuV), some (hcj), some (Zgx), some (Ze6), some (Zbn)]
 | .h1m2 => [some (.cells [vs 1 0 2 2, vn, vp 2 0, vs 3 0 1 1] 92), some (.cells [vi 1, vq, vq, vq, vq, vq, vi 1, vq, vq, vq, vq, vq] 61), some (hcl), some (ZaV), some (hcx), some (ZaU), some (Zq1), some (hcz), some (hccd), some (hcf), some (hcm), some (hch), some (hch), some (hcb), some (ZuV), some (hcj), some (Zgx), some (Ze6), some (Zbn)]
 | .h1m3 => [some (.cells [vs 1 0 3 3, vn, vp 2 0, vs 3 0 1 1] 92), some (hccv), some (hcl), some (ZaV), some (hcx), some (ZaU), some (Zq1), some (hcz), some (hccb), some (hcf), some (hcm), some (hch), some (hch), some (hcb), some (ZuV), some (hcj), some (Zgx), some (Ze6), some (Zbn)]
 | .h1m4 => [some (.cells [vs 1 0 4 4, vn, vp 2 0, vs 3 0 1 1] 92), some (hccr), some (hca), some (ZaV), some (hcx), some (ZaU), some (Zb1), some (hcc), some (.cells [vp 2 0, vq, vs 13 0 20 20, Value.int .u32 (0 : Int), Value.int .i32 (0 : Int), Value.int .u32 (0 : Int), vn, vi 2, vi 1048577, vi 1, vi 13, vi 1, vq, vi 1, vq, vi 1, vq, vi 1, vq, vi 1, vi 7, vi 1, vq, vi 3, vn, vq, vq, vs 14 0 1 1, vp 15 0, vp 16 0, vi 4, vf, vn] 174), some (hcf), some (hcm), some (hch), some (hch), some (hcb), some (hci), some (.cells [vT, vf, vq, vi 4, vq, vq, vn, vn, vn, vq, vq, vq, vq, vq, vq, vq, vq, vq, vq, Value.nilFunc, Value.nilFunc, Value.nilFunc, vq, vq, vq, vq, vf, vq, vq, vq, vn, vq, Value.nilFunc, vq, vq, vq, vn, vq, vq, vq, vp 2 0, vq, Value.func (.func 222) #[vp 15 0] #[], vq, vf, vi 1, vp 17 0, vp 18 0, vp 19 0, vn, vq, vq, vq] 226), some (hcj), some (Zgx), some (Ze6), some (Zbn)]
 | .h1m5 => [some (.cells [vs 1 0 5 5, vn, vp 2 0, vs 3 0 1 1] 92), some (hccl), some (hca), some (ZaV), some (hcx), some (ZaU), some (Zb1), some (hcc), some (hcw), some (hcf), some (hcm), some (hch), some (hch), some (hcb), some (hci), some (hcbp), some (hcj), some (Zgx), some (Ze6), some (Zbn)]
 | .h1m6 => [some (.cells [vs 1 0 6 6, vn, vp 2 0, vs 3 0 1 1] 92), some (hcck), some (hca), some (ZaV), some (hcx), some (ZaU), some (Zb1), some (hcc), some (hcw), some (hcf), some (hcm), some (hch), some (hch), some (hcb), some (hci), some (.cells [vT, vf, vq, vi 4, vi 5, vq, vn, vn, vn, vi 2, vi 1048577, vi 5, vq, vq, vq, vq, vq, vq, vq, Value.func (.func 194) #[vp 15 0] #[], Value.func (.func 195) #[vp 15 0] #[], Value.func (.func 195) #[vp 15 0] #[], vi 1, vq, vq, vq, vf, vq, vq, vq, vn, vq, Value.nilFunc, vq, vq, vq, vn, vq, vq, vq, vp 2 0, vq, Value.func (.func 242) #[vp 15 0] #[], vq, vT, vi 1, vp 17 0, vp 18 0, vp 19 0, vn, vq, vq, vq] 226), some (hcj), some (Zgx), some (Ze6), some (Zbn)]
 | .h1m7 => [some (.cells [vs 1 0 7 7, vn, vp 2 0, vs 3 0 1 1] 92), some (hccj), some (hca), some (ZaV), some (hcx), some (ZaU), some (Zb1), some (hcc), some (hcw), some (hcf), some (hcm), some (hch), some (hch), some (hcb), some (hci), some (.cells [vT, vf, vq, vi 4, vi 5, vq, vn, vn, vn, vi 2, vi 1048577, vi 5, vq, vq, vq, vq, vq, vq, vq, Value.func (.func 194) #[vp 15 0] #[], Value.func (.func 195) #[vp 15 0] #[], Value.func (.func 195) #[vp 15 0] #[], vi 1, vq, vq, vq, vf, vq, vq, vq, vn, vq, Value.nilFunc, vq, vq, vq, vn, vq, vq, vq, vp 2 0, vq, Value.func (.func 195) #[vp 15 0] #[], vq, vT, vi 1, vp 17 0, vp 18 0, vp 19 0, vn, vq, vq, vq] 226), some (hcj), some (Zgx), some (Ze6), some (Zbn)]
 | .h1m8 => [some (.cells [vs 1 0 8 8, vn, vp 2 0, vs 3 0 1 1] 92), some (hccf), some (hca), some (ZaV), some (hcx), some (ZaU), some (Zb1), some (hcc), some (hcw), some (hcf), some (hcm), some (hch), some (hch), some (hcb), some (hci), some (.cells [vT, vf, vq, vi 4, vi 5, vq, vn, vn, vn, vi 2, vi 1048577, vi 5, vq, vq, vq, vq, vq, vq, vq, Value.func (.func 194) #[vp 15 0] #[], Value.func (.func 195) #[vp 15 0] #[], Value.func (.func 195) #[vp 15 0] #[], vi 1, vq, vq, vq, vf, vi 2, vq, vq, vn, vq, Value.nilFunc, vq, vq, vq, vn, vq, vq, vq, vp 2 0, vq, Value.func (.func 245) #[vp 15 0] #[], vq, vT, vi 1, vp 17 0, vp 18 0, vp 19 0, vn, vq, vq, vq] 226), some (hcj), some (Zgx), some (Ze6), some (Zbn)]
 | .h1m9 => [some (.cells [vs 1 0 9 9, vn, vp 2 0, vs 3 0 1 1] 92), some (hcbz), some (hca), some (ZaV), some (hcx), some (ZaU), some (Zb1), some (hcc), some (hcbw), some (hcf), some (hcm), some (hch), some (hch), some (hcb), some (hci), some (.cells [vT, vf, vq, vi 4, vi 5, vq, vs 17 0 1 1, vn, vn, vi 2, vi 1048577, vi 5, vq, vq, vq, vq, vq, vq, vq, Value.func (.func 194) #[vp 15 0] #[], Value.func (.func 195) #[vp 15 0] #[], Value.func (.func 195) #[vp 15 0] #[], vi 1, vq, vq, vq, vf, vi 2, vq, vq, vn, vq, Value.nilFunc, vq, vq, vq, vn, vq, vq, vq, vp 2 0, vq, Value.nilFunc, vq, vT, vi 1, vp 18 0, vp 19 0, vp 20 0, vn, vi 2, vq, vq] 226), some (hcj), some (Zhk), some (Zws), some (Ze6), some (Zbn), some (Zab), some (.ro (ZG ([(⟨(1 : Int), (0 : Int)⟩ : R_ii)] : List R_ii)) true)]
 | .h1m10 => [some (.cells [vs 1 0 10 10, vn, vp 2 0, vs 3 0 1 1] 92), some (hcbr), some (hca), some (ZaV), some (hcx), some (ZaU), some (Zb1), some (hcc), some (hcbv), some (hcf), some (hcm), some (hch), some (hch), some (hcb), some (hci), some (.cells [vT, vf, vq, vi 4, vi 5, vq, vs 17 0 1 1, vn, vn, vi 2, vi 1048577, vi 5, vq, vq, vq, vq, vq, vq, vq, Value.func (.func 194) #[vp 15 0] #[], Value.func (.func 195) #[vp 15 0] #[], Value.func (.func 195) #[vp 15 0] #[], vi 1, vq, vq, vq, vf, vi 2, vq, vq, vn, vq, Value.nilFunc, vq, vq, vq, vn, vq, vq, vq, vp 2 0, vq, Value.nilFunc, vq, vT, vi 1, vp 18 0, vp 19 0, vp 20 0, vn, vi 2, vq, vq] 226), some (hcj), some (Zhk), some (Zws), some (Ze6), some (Zbn), some (Zab), some (.ro (ZG ([(⟨(1 : Int), (0 : Int)⟩ : R_ii)] : List R_ii)) true)]
 | .h1m11 => [some (.cells [vs 1 0 11 11, vn, vp 2 0, vs 3 0 1 1] 92), some (hcbo), some (hca), some (ZaV), some (hcp), some (ZaU), some (Zb1), some (hcc), some (hcbs), some (hce), some (hcci), some (hch), some (hch), some (hcb), some (hci), some (.cells [vT, vf, vq, vi 4, vi 5, vq, vs 17 0 1 1, vs 18 0 1 1, vn, vq, vq, vq, vq, vq, vi 3, vi 1, vq, vq, vq, Value.nilFunc, Value.nilFunc, Value.nilFunc, vq, vq, vq, vq, vf, vq, vq, vq, vn, vq, Value.nilFunc, vq, vq, vq, vn, vq, vq, vq, vp 2 0, vq, Value.nilFunc, vq, vT, vi 1, vp 19 0, vp 20 0, vp 21 0, vn, vi 2, vi 1048594, vq] 226), some (hcj), some (Zhk), some (Zaa), some (hct), some (Ze6), some (Zbn), some (Zab), some (.ro (ZG ([(⟨(1 : Int), (0 : Int)⟩ : R_ii)] : List R_ii)) true)]
 | .h1m12 => [some (.cells [vs 1 0 12 12, vn, vp 2 0, vs 3 0 1 1] 92), some (hcbl), some (hca), some (ZaV), some (hcp), some (ZaU), some (Zb1), some (hcc), some (hcbt), some (hce), some (hcch), some (hch), some (hch), some (hcb), some (hci), some (.cells [vT, vf, vq, vi 4, vi 5, vq, vs 17 0 1 1, vs 18 0 1 1, vn, vi 2, vi 1048594, vi 1, vi 1, vi 13, vq, vq, vq, vq, vq, Value.func (.func 197) #[vp 15 0] #[], Value.func (.func 197) #[vp 15 0] #[], Value.func (.func 192) #[vp 15 0] #[], vq, vq, vq, vq, vf, vq, vq, vq, vn, vq, Value.nilFunc, vq, vq, vq, vn, vq, vq, vq, vp 2 0, vq, Value.nilFunc, vq, vT, vi 1, vp 19 0, vp 20 0, vp 21 0, vn, vi 2, vi 1048594, vq] 226), some (hcj), some (Zhk), some (Zaa), some (hct), some (.cells [vi 64, vs 24 0 1 1] 257), some (Zbn), some (Zab), some (.ro (ZG ([(⟨(1 : Int), (0 : Int)⟩ : R_ii)] : List R_ii)) true), some (.cells [vi 2, vi 1048594, vi 1, vi 1, vq, vf, vq] 365)]
 | .h1m13 => [some (.cells [vs 1 0 13 13, vn, vp 2 0, vs 3 0 1 1] 92), some (hcbj), some (hca), some (ZaV), some (hcp), some (ZaU), some (Zb1), some (hcc), some (hcu), some (hce), some (hck), some (hch), some (hch), some (hcb), some (hci), some (.cells [vT, vf, vq, vi 4, vi 5, vq, vs 17 0 1 1, vs 18 0 1 1, vn, vi 2, vi 1048594, vi 2, vi 1, vi 7, vq, vq, vq, vq, vq, Value.func (.func 197) #[vp 15 0] #[], Value.func (.func 197) #[vp 15 0] #[], Value.func (.func 192) #[vp 15 0] #[], vq, vq, vq, vq, vf, vq, vq, vq, vn, vq, Value.nilFunc, vq, vq, vq, vn, vq, vq, vq, vp 2 0, vq, Value.nilFunc, vq, vT, vi 1, vp 19 0, vp 20 0, vp 21 0, vn, vi 2, vi 1048594, vq] 226), some (hcj), some (Zhk), some (Zaa), some (hct), some (ZoF), some (Zbn), some (Zab), some (.ro (ZG ([(⟨(1 : Int), (0 : Int)⟩ : R_ii)] : List R_ii)) true), some (Zno)]
 | .h1m14 => [some (.cells [vs 1 0 14 14, vn, vp 2 0, vs 3 0 1 1] 92), some (hcbg), some (hca), some (ZaV), some (hcp), some (ZaU), some (Zb1), some (hcc), some (hcu), some (hce), some (hck), some (hch), some (hch), some (hcb), some (hci), some (.cells [vT, vf, vq, vi 4, vi 5, vq, vs 17 0 1 1, vs 18 0 1 1, vn, vi 2, vi 1048577, vi 5, vq, vq, vq, vq, vq, vq, vq, Value.func (.func 194) #[vp 15 0] #[], Value.func (.func 195) #[vp 15 0] #[], Value.func (.func 195) #[vp 15 0] #[], vi 1, vq, vq, vq, vf, vq, vq, vq, vn, vq, Value.nilFunc, vq, vq, vq, vn, vq, vq, vq, vp 2 0, vq, Value.func (.func 242) #[vp 15 0] #[], vq, vT, vi 1, vp 19 0, vp 20 0, vp 21 0, vn, vi 2, vi 1048594, vq] 226), some (hcj), some (Zhk), some (Zaa), some (hct), some (ZoF), some (Zbn), some (Zab), some (.ro (ZG ([(⟨(1 : Int), (0 : Int)⟩ : R_ii)] : List R_ii)) true), some (Zno)]
 | .h1m15 => [some (.cells [vs 1 0 15 15, vn, vp 2 0, vs 3 0 1 1] 92), some (hcbf), some (hca), some (ZaV), some (hcp), some (ZaU), some (Zb1), some (hcc), some (hcu), some (hce), some (hck), some (hch), some (hch), some (hcb), some (hci), some (.cells [vT, vf, vq, vi 4, vi 5, vq, vs 17 0 1 1, vs 18 0 1 1, vn, vi 2, vi 1048577, vi 5, vq, vq, vq, vq, vq, vq, vq, Value.func (.func 194) #[vp 15 0] #[], Value.func (.func 195) #[vp 15 0] #[], Value.func (.func 195) #[vp 15 0] #[], vi 1, vq, vq, vq, vf, vq, vq, vq, vn, vq, Value.nilFunc, vq, vq, vq, vn, vq, vq, vq, vp 2 0, vq, Value.func (.func 195) #[vp 15 0] #[], vq, vT, vi 1, vp 19 0, vp 20 0, vp 21 0, vn, vi 2, vi 1048594, vq] 226), some (hcj), some (Zhk), some (Zaa), some (hct), some (ZoF), some (Zbn), some (Zab), some (.ro (ZG ([(⟨(1 : Int), (0 : Int)⟩ : R_ii)] : List R_ii)) true), some (Zno)]
 | .h1m16 => [some (.cells [vs 1 0 16 16, vn, vp 2 0, vs 3 0 1 1] 92), some (hcbd), some (hca), some (ZaV), some (hcp), some (ZaU), some (Zb1), some (hcc), some (hcu), some (hce), some (hck), some (hch), some (hch), some (hcb), some (hci), some (.cells [vT, vf, vq, vi 4, vi 5, vq, vs 17 0 1 1, vs 18 0 1 1, vn, vi 2, vi 1048577, vi 5, vq, vq, vq, vq, vq, vq, vq, Value.func (.func 194) #[vp 15 0] #[], Value.func (.func 195) #[vp 15 0] #[], Value.func (.func 195) #[vp 15 0] #[], vi 1, vq, vq, vq, vf, vi 2, vq, vq, vn, vq, Value.nilFunc, vq, vq, vq, vn, vq, vq, vq, vp 2 0, vq, Value.func (.func 245) #[vp 15 0] #[], vq, vT, vi 1, vp 19 0, vp 20 0, vp 21 0, vn, vi 2, vi 1048594, vq] 226), some (hcj), some (Zhk), some (Zaa), some (hct), some (ZoF), some (Zbn), some (Zab), some (.ro (ZG ([(⟨(1 : Int), (0 : Int)⟩ : R_ii)] : List R_ii)) true), some (Zno)]
 | .h1m17 => [some (.cells [vs 1 0 17 17, vn, vp 2 0, vs 3 0 1 1] 92), some (hcbc), some (hca), some (ZaV), some (hcp), some (ZaU), some (Zb1), some (hcc), some (hcbu), some (hce), some (hck), some (hch), some (hch), some (hcb), some (hci), some (.cells [vT, vf, vq, vi 4, vi 5, vq, vs 17 0 2 2, vs 18 0 1 1, vn, vi 2, vi 1048577, vi 5, vq, vq, vq, vq, vq, vq, vq, Value.func (.func 194) #[vp 15 0] #[], Value.func (.func 195) #[vp 15 0] #[], Value.func (.func 195) #[vp 15 0] #[], vi 1, vq, vq, vq, vf, vi 2, vq, vq, vn, vq, Value.nilFunc, vq, vq, vq, vn, vq, vq, vq, vp 2 0, vq, Value.nilFunc, vq, vT, vi 1, vp 19 0, vp 20 0, vp 21 0, vn, vi 2, vq, vq] 226), some (hcj), some (hcv), some (Zaa), some (hct), some (ZoF), some (Zbn), some (Zab), some (.ro (ZG ([(⟨(1 : Int), (0 : Int)⟩ : R_ii)] : List R_ii)) true), some (Zno)]
 | .h1m18 => [some (.cells [vs 1 0 18 18, vn, vp 2 0, vs 3 0 1 1] 92), some (hcba), some (hca), some (ZaV), some (hcp), some (ZaU), some (Zb1), some (hcc), some (hcq), some (hce), some (hck), some (hch), some (hch), some (hcb), some (hci), some (.cells [vT, vf, vq, vi 4, vi 5, vq, vs 17 0 2 2, vs 18 0 1 1, vn, vi 2, vi 1048594, vq, vi 2, vq, vq, vq, vq, vq, vq, Value.func (.func 197) #[vp 15 0] #[], Value.func (.func 197) #[vp 15 0] #[], Value.func (.func 192) #[vp 15 0] #[], vq, vq, vq, vq, vf, vq, vq, vq, vn, vq, Value.nilFunc, vq, vq, vq, vn, vq, vq, vq, vp 2 0, vq, Value.nilFunc, vq, vT, vi 1, vp 19 0, vp 20 0, vp 21 0, vn, vi 2, vq, vq] 226), some (hcj), some (hcv), some (Zaa), some (hct), some (.cells [vi 64, vs 24 0 3 3] 257), some (Zbn), some (Zab), some (.ro (ZG ([(⟨(1 : Int), (0 : Int)⟩ : R_ii)] : List R_ii)) true), some (Zwr)]
 | .h1m19 => [some (.cells [vs 1 0 19 19, vn, vp 2 0, vs 3 0 1 1] 92), some (hcay), some (hca), some (ZaV), some (hcp), some (ZaU), some (Zb1), some (hcc), some (hcq), some (hce), some (hck), some (hch), some (hch), some (hcb), some (hci), some (.cells [vT, vf, vq, vi 4, vi 5, vq, vs 17 0 2 2, vs 18 0 1 1, vn, vi 2, vi 1048577, vi 5, vi 2, vi 1048594, vq, vq, vq, vq, vq, Value.func (.func 197) #[vp 15 0] #[], Value.func (.func 197) #[vp 15 0] #[], Value.func (.func 192) #[vp 15 0] #[], vi 1, vq, vq, vq, vf, vq, vq, vq, vs 19 0 1 1, vq, Value.nilFunc, vq, vq, vq, vn, vq, vq, vq, vp 2 0, vq, Value.func (.func 253) #[vp 15 0] #[], vq, vT, vi 1, vp 20 0, vp 21 0, vp 22 0, vn, vi 2, vq, vq] 226), some (hcj), some (hcv), some (Zaa), some (Zaa), some (Znn), some (.cells [vi 64, vs 25 0 3 3] 257), some (Zbn), some (Zab), some (.ro (ZG ([(⟨(1 : Int), (0 : Int)⟩ : R_ii)] : List R_ii)) true), some (Zwr)]
 | .h1m20 => [some (.cells [vs 1 0 20 20, vn, vp 2 0, vs 3 0 1 1] 92), some (hcax), some (hca), some (ZaV), some (hcp), some (ZaU), some (Zb1), some (hcc), some (hcq), some (hcd), some (hck), some (hch), some (hch), some (hcb), some (hci), some (.cells [vT, vf, vq, vi 4, vi 5, vq, vs 17 0 2 2, vs 18 0 1 1, vn, vi 2, vi 1048577, vi 5, vi 2, vi 1048594, vq, vq, vq, vq, vq, Value.func (.func 197) #[vp 15 0] #[], Value.func (.func 197) #[vp 15 0] #[], Value.func (.func 192) #[vp 15 0] #[], vi 1, vq, vq, vq, vf, vq, vq, vq, vs 19 2 0 0, vq, Value.nilFunc, vq, vq, vq, vn, vq, vq, vq, vp 2 0, vq, Value.func (.func 242) #[vp 15 0] #[], vq, vT, vi 1, vp 20 0, vp 21 0, vp 22 0, vn, vi 2, vq, vq] 226), some (hcj), some (hcv), some (Zaa), some (Zaa), some (Znn), some (ZuX), some (Zbn), some (Zab), some (.ro (ZG ([(⟨(1 : Int), (0 : Int)⟩ : R_ii)] : List R_ii)) true), some (Zt3)]
 | .h1m21 => [some (.cells [vs 1 0 21 21, vn, vp 2 0, vs 3 0 1 1] 92), some (hcat), some (hca), some (ZaV), some (hcp), some (ZaU), some (Zb1), some (hcc), some (hcq), some (hcd), some (hck), some (hch), some (hch), some (hcb), some (hci), some (.cells [vT, vf, vq, vi 4, vi 5, vq, vs 17 0 2 2, vs 18 0 1 1, vn, vi 2, vi 1048577, vi 5, vi 2, vi 1048594, vq, vq, vq, vq, vq, Value.func (.func 197) #[vp 15 0] #[], Value.func (.func 197) #[vp 15 0] #[], Value.func (.func 192) #[vp 15 0] #[], vi 1, vq, vq, vq, vf, vq, vq, vq, vs 19 2 0 0, vq, Value.nilFunc, vq, vq, vq, vn, vq, vq, vq, vp 2 0, vq, Value.func (.func 192) #[vp 15 0] #[], vq, vT, vi 1, vp 20 0, vp 21 0, vp 22 0, vn, vi 2, vq, vq] 226), some (hcj), some (hcv), some (Zaa), some (Zaa), some (Znn), some (ZuX), some (Zbn), some (Zab), some (.ro (ZG ([(⟨(1 : Int), (0 : Int)⟩ : R_ii)] : List R_ii)) true), some (Zt3)]
 | .h1m22 => [some (.cells [vs 1 0 22 22, vn, vp 2 0, vs 3 0 1 1] 92), some (hcas), some (hca), some (ZaV), some (hcp), some (ZaU), some (Zb1), some (hcc), some (hcq), some (hcd), some (hck), some (ZdO), some (ZdO), some (hcb), some (hci), some (.cells [vT, vf, vq, vi 4, vi 5, vq, vs 17 0 2 2, vs 18 0 1 1, vn, vi 2, vi 1048577, vi 5, vi 2, vi 1048594, vq, vq, vq, vq, vq, Value.func (.func 197) #[vp 15 0] #[], Value.func (.func 197) #[vp 15 0] #[], Value.func (.func 192) #[vp 15 0] #[], vi 1, vq, vq, vq, vf, vq, vq, vq, vs 19 2 0 0, vq, Value.nilFunc, vq, vq, vq, vn, vq, vq, vq, vp 2 0, vq, Value.func (.func 197) #[vp 15 0] #[], vq, vT, vi 1, vp 20 0, vp 21 0, vp 22 0, vn, vi 2, vq, vq] 226), some (hcj), some (hcv), some (Zaa), some (Zaa), some (Znn), some (ZuX), some (Zwt), some (Zab), some (.ro (ZG ([(⟨(1 : Int), (0 : Int)⟩ : R_ii)] : List R_ii)) true), some (Zt3), some (Zab)]
 | .h1m23 => [some (.cells [vs 1 0 23 23, vn, vp 2 0, vs 3 0 1 1] 92), some (hcao), some (hca), some (ZaV), some (hcp), some (ZaU), some (Zb1), some (hcc), some (ZuW), some (hcd), some (hcn), some (ZdO), some (ZdO), some (hcb), some (hci), some (.cells [vT, vf, vq, vi 4, vi 5, vq, vs 17 0 2 2, vs 18 0 1 1, vn, vi 2, vi 1048577, vi 5, vi 2, vi 1048594, vq, vq, vq, vq, vq, Value.func (.func 197) #[vp 15 0] #[], Value.func (.func 197) #[vp 15 0] #[], Value.func (.func 192) #[vp 15 0] #[], vi 1, vq, vq, vq, vf, vq, vq, vq, vs 19 2 0 0, vq, Value.nilFunc, vq, vq, vq, vn, vq, vq, vq, vp 2 0, vq, Value.nilFunc, vq, vT, vi 1, vp 20 0, vp 21 0, vp 22 0, vn, vi 2, vq, vq] 226), some (hcj), some (hcv), some (Zaa), some (Zaa), some (Znn), some (.cells [vi 64, vs 25 0 5 5] 257), some (Zwt), some (Zab), some (.ro (ZG ([(⟨(1 : Int), (0 : Int)⟩ : R_ii)] : List R_ii)) true), some (hco), some (Zab)]
 | .h1m24 => [some (.cells [vs 1 0 24 24, vn, vp 2 0, vs 3 0 1 1] 92), some (hcam), some (hcr), some (ZaV), some (hcp), some (ZaU), some (Ziz), some (hcc), some (ZuW), some (hcd), some (hcn), some (ZdO), some (ZdO), some (hcb), some (hci), some (.cells [vT, vf, vq, vi 4, vi 5, vi 24, vs 17 0 2 2, vs 18 0 1 1, vn, vq, vq, vq, vq, vq, vq, vq, vq, vq, vq, Value.nilFunc, Value.nilFunc, Value.nilFunc, vq, vq, vq, vq, vf, vq, vq, vq, vn, vq, Value.func (.func 228) #[vp 15 0] #[], vq, vq, vi 1, vn, vq, vq, vq, vp 2 0, vq, Value.func (.func 229) #[vp 15 0] #[], vq, vT, vi 1, vp 19 0, vp 20 0, vp 21 0, vn, vi 2, vq, vq] 226), some (hcj), some (hcv), some (Zaa), some (hct), some (.cells [vi 64, vs 24 0 5 5] 257), some (.cells [vT, vs 25 0 1 1] 261), some (Zab), some (.ro (ZG ([(⟨(1 : Int), (0 : Int)⟩ : R_ii)] : List R_ii)) true), some (hco), some (Zab)]
 | .h1m25 => [some (.cells [vs 1 0 25 25, vs 2 0 1 1, vp 3 0, vs 4 0 1 1] 92), some (Zt2), some (Zli), some (hcs), some (Zlk), some (Zaa), some (Zlh), some (Zlj), some (Ziz), some (hcc), some (Zsk), some (hcd), some (hcn), some (ZdO), some (ZdO), some (hcb), some (hci), some (.cells [vT, vT, vq, vi 4, vi 5, vi 24, vs 19 0 2 2, vs 20 0 1 1, vn, vq, vq, vq, vq, vq, vq, vq, vq, vq, vq, Value.nilFunc, Value.nilFunc, Value.nilFunc, vq, vq, vq, vq, vf, vq, vq, vq, vn, vi 1, Value.func (.func 228) #[vp 17 0] #[], vq, vq, vi 1, vn, vq, vq, vq, vp 3 0, vq, Value.func (.func 280) #[vp 17 0] #[], vq, vT, vi 1, vp 21 0, vp 22 0, vp 23 0, vn, vi 2, vq, vq] 226), some (Zjj), some (hcv), some (Zaa), some (ZoE), some (ZoG), some (.cells [vT, vs 27 0 1 1] 261), some (Zab), some (.ro (ZG ([(⟨(1 : Int), (0 : Int)⟩ : R_ii)] : List R_ii)) true), some (hco), some (Zab)]
 | .h1m26 => [some (.cells [vs 1 0 26 26, vs 2 0 1 1, vp 3 0, vs 4 0 1 1] 92), some (hcak), some (Zli), some (hcs), some (Zlk), some (Zaa), some (Zlh), some (Zlj), some (Ziz), some (hcc), some (Zsk), some (hcd), some (hcn), some (Znp), some (ZdO), some (hcb), some (hci), some (.cells [vT, vT, vq, vi 4, vi 5, vi 24, vs 19 0 2 2, vs 20 0 1 1, vn, vq, vq, vq, vq, vq, vq, vq, vq, vq, vq, Value.nilFunc, Value.nilFunc, Value.nilFunc, vq, vq, vq, vq, vf, vq, vq, vq, vn, vi 1, Value.func (.func 228) #[vp 17 0] #[], vq, vq, vi 1, vn, vq, vq, vq, vp 3 0, vq, Value.func (.func 325) #[vp 17 0] #[], vq, vT, vi 1, vp 21 0, vp 22 0, vp 23 0, vn, vi 2, vq, vq] 226), some (Zjj), some (hcv), some (Zaa), some (ZoE), some (ZoG), some (Zq2), some (Zab), some (.ro (ZG ([(⟨(1 : Int), (0 : Int)⟩ : R_ii)] : List R_ii)) true), some (hco), some (Zab)]
 | .h1m27 => [some (.cells [vs 1 0 27 27, vs 2 0 1 1, vp 3 0, vs 4 0 1 1] 92), some (hcaj), some (Zli), some (hcg), some (Zlk), some (Zaa), some (Zlh), some (Zlj), some (Ziz), some (hcy), some (Zsk), some (hcd), some (hcn), some (Znp), some (ZdO), some (hcb), some (hci), some (.cells [vT, vT, vq, vi 4, vi 5, vi 24, vs 19 0 2 2, vs 20 0 1 1, vn, vq, vq, vq, vq, vq, vq, vq, vq, vq, vq, Value.nilFunc, Value.nilFunc, Value.nilFunc, vq, vq, vq, vq, vf, vq, vq, vq, vn, vi 1, Value.func (.func 228) #[vp 17 0] #[], vq, vq, vi 1, vn, vq, vq, vq, vp 3 0, vq, Value.func (.func 349) #[vp 17 0] #[], vq, vT, vi 1, vp 21 0, vp 22 0, vp 23 0, vn, vi 2, vq, vq] 226), some (Zjj), some (hcv), some (Zaa), some (ZoE), some (ZoG), some (Zq2), some (Zab), some (.ro (ZG ([(⟨(1 : Int), (0 : Int)⟩ : R_ii)] : List R_ii)) true), some (hco), some (Zab)]
 | .h1m28 => [some (.cells [vs 1 0 28 28, vs 2 0 1 1, vp 3 0, vs 4 0 1 1] 92), some (hcag), some (Zli), some (hcg), some (Zlk), some (Zaa), some (Zlh), some (Zlj), some (Ziz), some (hcy), some (Zsk), some (hcd), some (hcn), some (Znp), some (ZdO), some (hcb), some (hci), some (.cells [vT, vT, vq, vi 4, vi 5, vi 24, vs 19 0 2 2, vs 20 0 1 1, vn, vq, vq, vq, vq, vq, vq, vq, vq, vq, vq, Value.nilFunc, Value.nilFunc, Value.nilFunc, vq, vq, vq, vq, vf, vq, vq, vq, vn, vi 1, Value.func (.func 228) #[vp 17 0] #[], vq, vq, vi 1, vs 21 0 1 1, vq, vq, vq, vp 3 0, vq, Value.func (.func 355) #[vp 17 0] #[], vq, vT, vi 1, vp 22 0, vp 23 0, vp 24 0, vn, vi 2, vq, vq] 226), some (Zjj), some (hcv), some (Zaa), some (.cells [vi 2] 3), some (hccq), some (.cells [vi 64, vs 27 0 5 5] 257), some (.cells [vT, vs 28 0 0 1] 261), some (Zab), some (.ro (ZG ([(⟨(1 : Int), (0 : Int)⟩ : R_ii)] : List R_ii)) true), some (hco), some (Zab)]
 | .h1m29 => [some (.cells [vs 1 0 29 29, vs 2 0 1 1, vp 3 0, vs 4 0 1 1] 92), some (hcaf), some (Zli), some (hcg), some (Zlk), some (Zaa), some (Zlh), some (Zlj), some (Ziz), some (hcy), some (.cells [vp 3 0, vq, vs 15 0 20 20, Value.int .u32 (0 : Int), Value.int .i32 (0 : Int), Value.int .u32 (0 : Int), vn, vi 2, vi 1048577, vi 1, vi 13, vi 2, vi 1048594, vi 2, vq, vi 1, vq, vi 1, vq, vi 1, vi 7, vi 1, vq, vi 20, vn, vq, vq, vn, vp 16 0, vp 17 0, vq, vf, vn] 174), some (hcd), some (hcn), some (Znp), some (ZdO), some (hcb), some (.cells [vf, vT, vq, vi 4, vi 5, vi 24, vs 18 0 2 2, vs 19 0 1 1, vn, vq, vq, vq, vq, vq, vq, vq, vq, vq, vq, Value.nilFunc, Value.nilFunc, Value.nilFunc, vq, vq, vq, vq, vf, vq, vq, vq, vn, vi 1, Value.func (.func 228) #[vp 16 0] #[], vq, vq, vi 1, vs 20 0 1 1, vq, vq, vq, vp 3 0, vq, Value.nilFunc, vq, vT, vq, vp 21 0, vp 22 0, vp 23 0, vn, vi 2, vq, vq] 226), some (Zjj), some (hcv), some (Zaa), some (.cells [vi 2] 3), some (ZoE), some (ZoG), some (Zq2), some (Zab), some (.ro (ZG ([(⟨(1 : Int), (0 : Int)⟩ : R_ii)] : List R_ii)) true), some (hco), some (Zab)]
 | .h1m30 => [some (.cells [vs 1 0 30 30, vs 2 0 1 1, vp 3 0, vs 4 0 1 1] 92), some (hcae), some (Zli), some (hcg), some (Zlk), some (Zaa), some (Zlh), some (Zlj), some (Ziz), some (hcy), some (hcbx), some (hcd), some (hcn), some (Znp), some (ZdO), some (hcb), some (.cells [vf, vT, vq, vi 4, vi 5, vi 24, vs 18 0 2 2, vs 19 0 1 1, vn, vq, vq, vq, vq, vq, vq, vq, vq, vq, vq, Value.nilFunc, Value.nilFunc, Value.nilFunc, vq, vq, vq, vq, vf, vq, vq, vq, vn, vi 1, Value.func (.func 228) #[vp 16 0] #[], vq, vq, vi 1, vs 20 0 1 1, vq, vq, vq, vp 3 0, vq, Value.nilFunc, vq, vT, vq, vp 21 0, vp 22 0, vp 23 0, vn, vi 2, vq, vq] 226), some (Zjj), some (hcv), some (Zaa), some (.cells [vi 2] 3), some (ZoE), some (ZoG), some (Zq2), some (Zab), some (.ro (ZG ([(⟨(1 : Int), (0 : Int)⟩ : R_ii)] : List R_ii)) true), some (hco), some (Zab)]

noncomputable def Z8 : Nat → Code × List ZeK
 | 1 => Zj0 [1, 1, 1, 1, 1, 0, 1, 3] (Zuh Tryz.f14) []
 | _ => (.skip, [])
def Zpp : Nat → Bool
 | 1 => true
 | _ => true
noncomputable def ZF (i : Nat) : List ZeK := match Zpp i with | true => .rnd i :: (Z8 i).2 | false => (Z8 i).2

noncomputable def Zg  (N : Nat) : Mach := ⟨Tryz.f14, [], Zd, Z5, Zz  N, ZtZ, Z8, Zpp, ZuY , ZuZ , Zq3 , Zpo ⟩

theorem Zro  (N : Nat) : (Zg  N).Ok Tryz.prog ZE (.h1m0 : Zd) (Zz  N (.h1m0 : Zd)) := by
 show (Zg  N).Ok Tryz.prog ZE (.h1m0 : Zd) (Zh3  N)
 unfold Zh3
 exact Mach.ok_next (M := Zg  N) (cd := 1000000) (cm := 0) (y := (.h1m1 : Zd)) (fu := 4000) (orc := (Zl [] [] [] [] [])) (live := [0, 56, 1, 2, 3, 4, 5, 6, 7, 8, 9, 10, 11, 12, 13, 14, 15, 16, 17]) (tv := fun _ => [some (vp 0 0), some (vi 1)]) (bl := [some (.cells [vs 56 0 1 1, vn, vp 1 0, vs 2 0 1 1] 92), some (.cells [vi 1, vq, vq, vq, vq, vq] 61), some (hcah), some (.cells [vp 7 0] 93), some (hccs), some (.cells [vs 10 0 16 16, vs 11 0 16 16] 195), some (Zq1), some (hcz), some (.cells [vp 1 0, vq, vs 12 0 20 20, Value.int .u32 (0 : Int), Value.int .i32 (0 : Int), Value.int .u32 (0 : Int), vn, vi 2, vi 1048577, vi 1, vq, vi 1, vq, vi 1, vq, vi 1, vq, vi 1, vq, vi 1, vq, vi 1, vq, vi 1, vn, vq, vq, vn, vp 13 0, vp 14 0, vq, vf, vn] 174), some (hcf), some (hcm), some (hch), some (hch), some (hcb), some (hcbq), some (hccp), some (Zgx), some (Ze6), some (Zbn)]) (ob := []) rfl (show 1 ∈ ZJ (ZF 1) from by decide +kernel) (fun gv => by kernel_rfl) Zf rfl (by decide) (by rfl) (fun _ => ⟨rr, ⟨rr, trivial⟩⟩) ⟨⟨rfl, ⟨[], by rfl⟩, by rfl⟩, ⟨⟨rfl, ⟨[], by rfl⟩, by rfl⟩, ⟨⟨rfl, ⟨[], by rfl⟩, by rfl⟩, ⟨⟨rfl, ⟨[], by rfl⟩, by rfl⟩, ⟨⟨rfl, ⟨[], by rfl⟩, by rfl⟩, ⟨⟨rfl, ⟨[], by rfl⟩, by rfl⟩, ⟨⟨rfl, ⟨[], by rfl⟩, by rfl⟩, ⟨⟨rfl, ⟨[], by rfl⟩, by rfl⟩, ⟨⟨rfl, ⟨[], by rfl⟩, by rfl⟩, ⟨⟨rfl, ⟨[], by rfl⟩, by rfl⟩, ⟨⟨rfl, ⟨[], by rfl⟩, by rfl⟩, ⟨⟨rfl, ⟨[], by rfl⟩, by rfl⟩, ⟨⟨rfl, ⟨[], by rfl⟩, by rfl⟩, ⟨⟨rfl, ⟨[], by rfl⟩, by rfl⟩, ⟨⟨rfl, ⟨[], by rfl⟩, by rfl⟩, ⟨⟨rfl, ⟨[], by rfl⟩, by rfl⟩, ⟨⟨rfl, ⟨[], by rfl⟩, by rfl⟩, ⟨⟨rfl, ⟨[], by rfl⟩, by rfl⟩, ⟨⟨rfl, ⟨[], by rfl⟩, by rfl⟩, trivial⟩⟩⟩⟩⟩⟩⟩⟩⟩⟩⟩⟩⟩⟩⟩⟩⟩⟩⟩

theorem Zrp  (N : Nat) : (Zg  N).Ok Tryz.prog ZE (.h1m1 : Zd) (Zz  N (.h1m1 : Zd)) := by
 show (Zg  N).Ok Tryz.prog ZE (.h1m1 : Zd) (Zh4  N)
 unfold Zh4
 exact Mach.ok_next (M := Zg  N) (cd := 1000000) (cm := 0) (y := (.h1m2 : Zd)) (fu := 4000) (orc := (Zl [] [] [] [] [])) (live := [0, 58, 2, 3, 4, 5, 6, 7, 8, 9, 10, 11, 12, 13, 14, 15, 16, 17, 18]) (tv := fun _ => [some (vp 0 0), some (vi 2)]) (bl := [some (.cells [vs 58 0 2 2, vn, vp 2 0, vs 3 0 1 1] 92), some (.cells [vi 1, vq, vq, vq, vq, vq, vi 1, vq, vq, vq, vq, vq] 61), some (hcl), some (ZaV), some (hcx), some (ZaU), some (Zq1), some (hcz), some (hccd), some (hcf), some (hcm), some (hch), some (hch), some (hcb), some (ZuV), some (hcj), some (Zgx), some (Ze6), some (Zbn)]) (ob := []) rfl (show 1 ∈ ZJ (ZF 1) from by decide +kernel) (fun gv => by kernel_rfl) Zf rfl (by decide) (by rfl) (fun _ => ⟨rr, ⟨rr, trivial⟩⟩) ⟨⟨rfl, ⟨[], by rfl⟩, by rfl⟩, ⟨⟨rfl, ⟨[], by rfl⟩, by rfl⟩, ⟨⟨rfl, ⟨[], by rfl⟩, by rfl⟩, ⟨⟨rfl, ⟨[], by rfl⟩, by rfl⟩, ⟨⟨rfl, ⟨[], by rfl⟩, by rfl⟩, ⟨⟨rfl, ⟨[], by rfl⟩, by rfl⟩, ⟨⟨rfl, ⟨[], by rfl⟩, by rfl⟩, ⟨⟨rfl, ⟨[], by rfl⟩, by rfl⟩, ⟨⟨rfl, ⟨[], by rfl⟩, by rfl⟩, ⟨⟨rfl, ⟨[], by rfl⟩, by rfl⟩, ⟨⟨rfl, ⟨[], by rfl⟩, by rfl⟩, ⟨⟨rfl, ⟨[], by rfl⟩, by rfl⟩, ⟨⟨rfl, ⟨[], by rfl⟩, by rfl⟩, ⟨⟨rfl, ⟨[], by rfl⟩, by rfl⟩, ⟨⟨rfl, ⟨[], by rfl⟩, by rfl⟩, ⟨⟨rfl, ⟨[], by rfl⟩, by rfl⟩, ⟨⟨rfl, ⟨[], by rfl⟩, by rfl⟩, ⟨⟨rfl, ⟨[], by rfl⟩, by rfl⟩, ⟨⟨rfl, ⟨[], by rfl⟩, by rfl⟩, trivial⟩⟩⟩⟩⟩⟩⟩⟩⟩⟩⟩⟩⟩⟩⟩⟩⟩⟩⟩

theorem Zrq  (N : Nat) : (Zg  N).Ok Tryz.prog ZE (.h1m2 : Zd) (Zz  N (.h1m2 : Zd)) := by
 show (Zg  N).Ok Tryz.prog ZE (.h1m2 : Zd) (Zh5  N)
 unfold Zh5
 exact Mach.ok_next (M := Zg  N) (cd := 1000000) (cm := 0) (y := (.h1m3 : Zd)) (fu := 4000) (orc := (Zl [] [] [] [] [])) (live := [0, 58, 2, 3, 4, 5, 6, 7, 8, 9, 10, 11, 12, 13, 14, 15, 16, 17, 18]) (tv := fun _ => [some (vp 0 0), some (vi 3)]) (bl := [some (.cells [vs 58 0 3 3, vn, vp 2 0, vs 3 0 1 1] 92), some (hccv), some (hcl), some (ZaV), some (hcx), some (ZaU), some (Zq1), some (hcz), some (hccb), some (hcf), some (hcm), some (hch), some (hch), some (hcb), some (ZuV), some (hcj), some (Zgx), some (Ze6), some (Zbn)]) (ob := []) rfl (show 1 ∈ ZJ (ZF 1) from by decide +kernel) (fun gv => by kernel_rfl) Zf rfl (by decide) (by rfl) (fun _ => ⟨rr, ⟨rr, trivial⟩⟩) ⟨⟨rfl, ⟨[], by rfl⟩, by rfl⟩, ⟨⟨rfl, ⟨[], by rfl⟩, by rfl⟩, ⟨⟨rfl, ⟨[], by rfl⟩, by rfl⟩, ⟨⟨rfl, ⟨[], by rfl⟩, by rfl⟩, ⟨⟨rfl, ⟨[], by rfl⟩, by rfl⟩, ⟨⟨rfl, ⟨[], by rfl⟩, by rfl⟩, ⟨⟨rfl, ⟨[], by rfl⟩, by rfl⟩, ⟨⟨rfl, ⟨[], by rfl⟩, by rfl⟩, ⟨⟨rfl, ⟨[], by rfl⟩, by rfl⟩, ⟨⟨rfl, ⟨[], by rfl⟩, by rfl⟩, ⟨⟨rfl, ⟨[], by rfl⟩, by rfl⟩, ⟨⟨rfl, ⟨[], by rfl⟩, by rfl⟩, ⟨⟨rfl, ⟨[], by rfl⟩, by rfl⟩, ⟨⟨rfl, ⟨[], by rfl⟩, by rfl⟩, ⟨⟨rfl, ⟨[], by rfl⟩, by rfl⟩, ⟨⟨rfl, ⟨[], by rfl⟩, by rfl⟩, ⟨⟨rfl, ⟨[], by rfl⟩, by rfl⟩, ⟨⟨rfl, ⟨[], by rfl⟩, by rfl⟩, ⟨⟨rfl, ⟨[], by rfl⟩, by rfl⟩, trivial⟩⟩⟩⟩⟩⟩⟩⟩⟩⟩⟩⟩⟩⟩⟩⟩⟩⟩⟩

theorem Zrr  (N : Nat) : (Zg  N).Ok Tryz.prog ZE (.h1m3 : Zd) (Zz  N (.h1m3 : Zd)) := by
 show (Zg  N).Ok Tryz.prog ZE (.h1m3 : Zd) (Zh6  N)
 unfold Zh6
 exact Mach.ok_next (M := Zg  N) (cd := 1000000) (cm := 0) (y := (.h1m4 : Zd)) (fu := 4000) (orc := (Zl [] [] [] [] [])) (live := [0, 44, 2, 3, 4, 5, 6, 7, 8, 9, 10, 11, 12, 13, 28, 14, 15, 16, 17, 18]) (tv := fun _ => [some (vp 0 0), some (vi 4)]) (bl := [some (.cells [vs 44 0 4 4, vn, vp 2 0, vs 3 0 1 1] 92), some (hccr), some (hca), some (ZaV), some (hcx), some (ZaU), some (Zb1), some (hcc), some (.cells [vp 2 0, vq, vs 13 0 20 20, Value.int .u32 (0 : Int), Value.int .i32 (0 : Int), Value.int .u32 (0 : Int), vn, vi 2, vi 1048577, vi 1, vi 13, vi 1, vq, vi 1, vq, vi 1, vq, vi 1, vq, vi 1, vi 7, vi 1, vq, vi 3, vn, vq, vq, vs 28 0 1 1, vp 14 0, vp 15 0, vi 4, vf, vn] 174), some (hcf), some (hcm), some (hch), some (hch), some (hcb), some (hci), some (.cells [vT, vf, vq, vi 4, vq, vq, vn, vn, vn, vq, vq, vq, vq, vq, vq, vq, vq, vq, vq, Value.nilFunc, Value.nilFunc, Value.nilFunc, vq, vq, vq, vq, vf, vq, vq, vq, vn, vq, Value.nilFunc, vq, vq, vq, vn, vq, vq, vq, vp 2 0, vq, Value.func (.func 222) #[vp 14 0] #[], vq, vf, vi 1, vp 16 0, vp 17 0, vp 18 0, vn, vq, vq, vq] 226), some (hcj), some (Zgx), some (Ze6), some (Zbn)]) (ob := []) rfl (show 1 ∈ ZJ (ZF 1) from by decide +kernel) (fun gv => by kernel_rfl) Zf rfl (by decide) (by rfl) (fun _ => ⟨rr, ⟨rr, trivial⟩⟩) ⟨⟨rfl, ⟨[], by rfl⟩, by rfl⟩, ⟨⟨rfl, ⟨[], by rfl⟩, by rfl⟩, ⟨⟨rfl, ⟨[], by rfl⟩, by rfl⟩, ⟨⟨rfl, ⟨[], by rfl⟩, by rfl⟩, ⟨⟨rfl, ⟨[], by rfl⟩, by rfl⟩, ⟨⟨rfl, ⟨[], by rfl⟩, by rfl⟩, ⟨⟨rfl, ⟨[], by rfl⟩, by rfl⟩, ⟨⟨rfl, ⟨[], by rfl⟩, by rfl⟩, ⟨⟨rfl, ⟨[], by rfl⟩, by rfl⟩, ⟨⟨rfl, ⟨[], by rfl⟩, by rfl⟩, ⟨⟨rfl, ⟨[], by rfl⟩, by rfl⟩, ⟨⟨rfl, ⟨[], by rfl⟩, by rfl⟩, ⟨⟨rfl, ⟨[], by rfl⟩, by rfl⟩, ⟨⟨rfl, ⟨[], by rfl⟩, by rfl⟩, ⟨⟨rfl, ⟨[], by rfl⟩, by rfl⟩, ⟨⟨rfl, ⟨[], by rfl⟩, by rfl⟩, ⟨⟨rfl, ⟨[], by rfl⟩, by rfl⟩, ⟨⟨rfl, ⟨[], by rfl⟩, by rfl⟩, ⟨⟨rfl, ⟨[], by rfl⟩, by rfl⟩, ⟨⟨rfl, ⟨[], by rfl⟩, by rfl⟩, trivial⟩⟩⟩⟩⟩⟩⟩⟩⟩⟩⟩⟩⟩⟩⟩⟩⟩⟩⟩⟩

end Ev
end Go.Proofs.YtaajdoclloamlaaGreat
