/- Ranges over functions: the iterator, the statement. -/
import Derived.Test.YtldlnclkdgfahaaGreatEvRc
namespace Go.Proofs.YtldlnclkdgfahaaGreat
open Go.RowKit
namespace Ev
section
variable {P : Program} {ext : FuncId → Option Ext}
section
variable {ι0 : Ren} {h0 : AH} {w0 : World} {n0 : Nat} {ac : Act} {l0 K : Nat} {R : Loop} {cx : Cx}
def PostI (P : Program) (ι0 : Ren) (h0 : AH) (w0 : World) (n0 : Nat) (cx : Cx) (ac : Act) (l0 K : Nat) (R : Loop) (nt : Nat) (ι : Ren) (s : St) (e : Ex) (T' : Tr Value) (s' : St) (ys' : List Tmp) (pe' : Option Ex) (ex : Exit) (a' : Act) (W' : World) : Prop :=
  ex = e.out ∧ ∃ ι', TR ι' nt [] T' a' ∧ YS l0 ys' a' ∧ IS P ι0 h0 w0 n0 cx.nt cx.T ac l0 K (Rp R pe') ι' s' W' ∧ Dom ι ι' s.n s'.n
theorem i_sound (F : Fit P ext) (hR : R.tmps = ac.tmps ∧ R.params = cx.ps ∧ R.assign = cx.asg ∧ R.body = cx.body) {nt : Nat} : ∀ fu : Nat,
    (∀ c T s ys pe e T' s' ys' pe', evI P ext nt cx fu c T s ys pe = some (e, T', s', ys', pe') → (∀ p ∈ s'.ob, p.1 = p.2) → ∀ ι a W, TR ι nt [] T a → YS l0 ys a → IS P ι0 h0 w0 n0 cx.nt cx.T ac l0 K (Rp R pe) ι s W → Fresh ι s.n s'.n →
      c.wpIn (Fr none) 0 P (PostI P ι0 h0 w0 n0 cx ac l0 K R nt ι s e T' s' ys' pe') a W) ∧
    (∀ c T s ys pe e T' s' ys' pe', evI P ext nt cx fu (.loop c) T s ys pe = some (e, T', s', ys', pe') → (∀ p ∈ s'.ob, p.1 = p.2) → ∀ ι a W, TR ι nt [] T a → YS l0 ys a → IS P ι0 h0 w0 n0 cx.nt cx.T ac l0 K (Rp R pe) ι s W → Fresh ι s.n s'.n →
      Code.roundsIn (Fr none) 0 P c (PostI P ι0 h0 w0 n0 cx ac l0 K R nt ι s e T' s' ys' pe') fu a W) := by
  intro fu
  induction fu with
  | zero => exact ⟨fun _ _ _ _ _ _ _ _ _ _ h => by simp [evI] at h, fun _ _ _ _ _ _ _ _ _ _ h => by simp [evI] at h⟩
  | succ fu ih =>
    obtain ⟨ihC, ihL⟩ := ih
    have two : ∀ {ι ι1 : Ren} {s s1 s' : St} {e : Ex} {T' : Tr Value} {ys' : List Tmp} {pe' : Option Ex}, Dom ι ι1 s.n s1.n → s.n ≤ s1.n → s1.n ≤ s'.n → ∀ ex a W, PostI P ι0 h0 w0 n0 cx ac l0 K R nt ι1 s1 e T' s' ys' pe' ex a W → PostI P ι0 h0 w0 n0 cx ac l0 K R nt ι s e T' s' ys' pe' ex a W :=
      fun hd h1 h2 ex a W ⟨hx, ι', k1, k2, k3, k4⟩ => ⟨hx, ι', k1, k2, k3, hd.trans k4 h1 h2⟩
    have loops : ∀ c T s ys pe e T' s' ys' pe', evI P ext nt cx (fu + 1) (.loop c) T s ys pe = some (e, T', s', ys', pe') → (∀ p ∈ s'.ob, p.1 = p.2) → ∀ ι a W, TR ι nt [] T a → YS l0 ys a → IS P ι0 h0 w0 n0 cx.nt cx.T ac l0 K (Rp R pe) ι s W → Fresh ι s.n s'.n →
        Code.roundsIn (Fr none) 0 P c (PostI P ι0 h0 w0 n0 cx ac l0 K R nt ι s e T' s' ys' pe') (fu + 1) a W := by
      intro x T s ys pe e T' s' ys' pe' h ho ι a W hT hY I hf
      simp only [evI] at h
      rw [roundsIn_succ]
      split at h
      · rename_i T1 s1 ys1 pe1 h1
        have u1 := up_i F fu _ _ _ _ _ _ _ _ _ _ h1
        have u2 := up_i F fu _ _ _ _ _ _ _ _ _ _ h
        refine wpIn_mono (ihC x T s ys pe .normal T1 s1 ys1 pe1 h1 (suffix_ob u2.ob ho) ι a W hT hY I (hf.mono (Nat.le_refl _) u2.n)) ?_
        rintro ex a1 w1 ⟨rfl, ι1, g1, g2, g3, g4⟩
        exact roundsIn_mono (two g4 u1.n u2.n) fu a1 w1 (ihL x T1 s1 ys1 pe1 e T' s' ys' pe' h ho ι1 a1 w1 g1 g2 g3 (hf.after g4 u1.n))
      · rename_i i r h1
        injection h with h; simp only [Prod.mk.injEq] at h; obtain ⟨rfl, rfl⟩ := h
        refine wpIn_mono (ihC x T s ys pe _ _ _ _ _ h1 ho ι a W hT hY I hf) ?_
        rintro ex a1 w1 ⟨rfl, hq⟩
        exact ⟨rfl, hq⟩
      · rename_i r h1
        injection h with h; simp only [Prod.mk.injEq] at h; obtain ⟨rfl, rfl⟩ := h
        refine wpIn_mono (ihC x T s ys pe _ _ _ _ _ h1 ho ι a W hT hY I hf) ?_
        rintro ex a1 w1 ⟨rfl, hq⟩
        exact ⟨rfl, hq⟩
      · cases h
    refine ⟨fun c T s ys pe e T' s' ys' pe' h ho ι a W hT hY I hf => ?_, loops⟩
    have h0' := h
    cases c <;> simp only [evI] at h
    case skip => injection h with h; simp only [Prod.mk.injEq] at h; obtain ⟨rfl, rfl, rfl, rfl, rfl⟩ := h; exact wpIn_skip ⟨rfl, ι, hT, hY, I, Dom.refl⟩
    case ret => injection h with h; simp only [Prod.mk.injEq] at h; obtain ⟨rfl, rfl, rfl, rfl, rfl⟩ := h; exact wpIn_ret ⟨rfl, ι, hT, hY, I, Dom.refl⟩
    case exit id => injection h with h; simp only [Prod.mk.injEq] at h; obtain ⟨rfl, rfl, rfl, rfl, rfl⟩ := h; exact wpIn_exit ⟨rfl, ι, hT, hY, I, Dom.refl⟩
    case seq x y =>
      split at h
      · rename_i T1 s1 ys1 pe1 h1
        have u1 := up_i F fu _ _ _ _ _ _ _ _ _ _ h1
        have u2 := up_i F fu _ _ _ _ _ _ _ _ _ _ h
        refine wpIn_seq (wpIn_mono (ihC x T s ys pe .normal T1 s1 ys1 pe1 h1 (suffix_ob u2.ob ho) ι a W hT hY I (hf.mono (Nat.le_refl _) u2.n)) ?_)
        rintro ex a1 w1 ⟨rfl, ι1, g1, g2, g3, g4⟩
        exact wpIn_mono (ihC y T1 s1 ys1 pe1 e T' s' ys' pe' h ho ι1 a1 w1 g1 g2 g3 (hf.after g4 u1.n)) (two g4 u1.n u2.n)
      · rename_i i r h1
        injection h with h; simp only [Prod.mk.injEq] at h; obtain ⟨rfl, rfl⟩ := h
        refine wpIn_seq (wpIn_mono (ihC x T s ys pe _ _ _ _ _ h1 ho ι a W hT hY I hf) ?_)
        rintro ex a1 w1 ⟨rfl, hq⟩
        exact ⟨rfl, hq⟩
      · rename_i r h1
        injection h with h; simp only [Prod.mk.injEq] at h; obtain ⟨rfl, rfl⟩ := h
        refine wpIn_seq (wpIn_mono (ihC x T s ys pe _ _ _ _ _ h1 ho ι a W hT hY I hf) ?_)
        rintro ex a1 w1 ⟨rfl, hq⟩
        exact ⟨rfl, hq⟩
      · cases h
    case cond x y z =>
      split at h
      · rename_i t ht
        have hx : a.eval x = .bool t := evalG_bool ((ht ▸ hT.opnd x : VR ι (.bool t) (evalG a x)).bool_inv)
        split at h
        · exact wpIn_cond_true hx (ihC y T s ys pe e T' s' ys' pe' h ho ι a W hT hY I hf)
        · exact wpIn_cond_false hx (ihC z T s ys pe e T' s' ys' pe' h ho ι a W hT hY I hf)
      · cases h
    case block id x =>
      split at h
      · rename_i i r h1
        cases hb : Nat.beq i id with
        | true =>
          rw [hb] at h
          injection h with h; simp only [Prod.mk.injEq] at h; obtain ⟨rfl, rfl⟩ := h
          refine wpIn_block (wpIn_mono (ihC x T s ys pe _ _ _ _ _ h1 ho ι a W hT hY I hf) ?_)
          rintro ex a1 w1 ⟨rfl, hq⟩
          show if i = id then _ else _
          rw [if_pos (Nat.eq_of_beq_eq_true hb)]
          exact ⟨rfl, hq⟩
        | false =>
          rw [hb] at h
          injection h with h; simp only [Prod.mk.injEq] at h; obtain ⟨rfl, rfl⟩ := h
          refine wpIn_block (wpIn_mono (ihC x T s ys pe _ _ _ _ _ h1 ho ι a W hT hY I hf) ?_)
          rintro ex a1 w1 ⟨rfl, hq⟩
          show if i = id then _ else _
          rw [if_neg (fun e => by rw [beqT e] at hb; cases hb)]
          exact ⟨rfl, hq⟩
      · rename_i r h1
        injection h with h; simp only [Prod.mk.injEq] at h; obtain ⟨rfl, rfl⟩ := h
        refine wpIn_block (wpIn_mono (ihC x T s ys pe _ _ _ _ _ h1 ho ι a W hT hY I hf) ?_)
        rintro ex a1 w1 ⟨rfl, hq⟩
        exact ⟨rfl, hq⟩
      · rename_i r h1
        injection h with h; simp only [Prod.mk.injEq] at h; obtain ⟨rfl, rfl⟩ := h
        refine wpIn_block (wpIn_mono (ihC x T s ys pe _ _ _ _ _ h1 ho ι a W hT hY I hf) ?_)
        rintro ex a1 w1 ⟨rfl, hq⟩
        exact ⟨rfl, hq⟩
      · cases h
    case loop x => exact wpIn_loop_rounds (fu + 1) (loops x T s ys pe e T' s' ys' pe' h0' ho ι a W hT hY I hf)
    case region id ops draw =>
      split at h
      · cases h
      · split at h
        · rename_i T1 s1 ys1 pe1 h1
          injection h with h; simp only [Prod.mk.injEq] at h; obtain ⟨rfl, rfl, rfl, rfl, rfl⟩ := h
          exact wpIn_region_list (iops_sound F hR ops.toList T s ys pe T1 s1 ys1 pe1 h1 ho ι a W _ hT hY I hf fun ι' a' W' k1 k2 k3 k4 => ⟨rfl, ι', k1, k2, k3, k4⟩)
        · cases h
    all_goals cases h
end
/-- What is known of the mark on the deferred calls. -/
def Mk (b : Nat) (m : Bool) (D : List Deferred) (ι : Ren) (w : World) : Prop := match m with
  | false => D = []
  | true => ∃ K, b ≤ K ∧ D = [{ target := .collected K, args := #[] }] ∧ w.heap[K]? = some (.deferred (some [])) ∧ ∀ k b, ι k = some b → b.1 ≠ K
theorem Mk.step {b : Nat} {m : Bool} {D : List Deferred} {ι ι1 : Ren} {h h1 : AH} {w w1 : World} (hm : Mk b m D ι w) (g : Step P ι h w ι1 h1 w1) : Mk b m D ι1 w1 := by
  cases m with
  | false => exact hm
  | true =>
    obtain ⟨K, hb, e, hk, hn⟩ := hm
    obtain ⟨a1, a2⟩ := none_has g (Array.getElem?_eq_some_iff.1 hk).1 hn
    exact ⟨K, hb, e, a2.trans hk, a1⟩
def PostR (b : Nat) (P : Program) (ι : Ren) (s : St) (w : World) (nt : Nat) (e : Ex) (T' : Tr Value) (s' : St) (m' : Bool) (ex : Exit) (a' : Act) (w' : World) : Prop :=
  ex = e.out ∧ ∃ ι' D', Step P ι s.h.get w ι' s'.h.get w' ∧ Dom ι ι' s.n s'.n ∧ TR ι' nt D' T' a' ∧ Mk b m' D' ι' w'
theorem up_rf (F : Fit P ext) {nt fu : Nat} {g : Operand} {ps : Array Tmp} {asg body : Code} {T : Tr Value} {s s' : St} {e : Ex} (h : evRF P ext nt fu g ps asg body T s = some (e, s')) : Up s s' := by
  unfold evRF at h
  split at h
  · split at h
    · split at h
      · obtain ⟨_, h⟩ := bif_some h
        split at h
        · cases h
        · rename_i h1; injection h with h; injection h with q1 q2; subst q2; exact up_i F _ _ _ _ _ _ _ _ _ _ _ h1
        · rename_i h1; obtain ⟨_, h⟩ := bif_none h; injection h with h; injection h with q1 q2; subst q2; exact up_i F _ _ _ _ _ _ _ _ _ _ _ h1
        · cases h
      · cases h
    · cases h
  · cases h
theorem rf_sound (F : Fit P ext) {nt fu : Nat} {g : Operand} {ps : Array Tmp} {asg body : Code} {T : Tr Value} {s s' : St} {e : Ex} (h : evRF P ext nt fu g ps asg body T s = some (e, s')) (ho : ∀ p ∈ s'.ob, p.1 = p.2) {b : Nat} {ι : Ren} {a : Act} {w : World} (hbw : b ≤ w.heap.size)
    (hT : TR ι nt [] T a) (he : Emb P ι s.h.get w) (hf : Fresh ι s.n s'.n) : (Code.rangeFunc g ps asg body).wpIn (Fr none) 0 P (PostR b P ι s w nt e T s' true) a w := by
  unfold evRF at h
  split at h
  · rename_i gf av bv hg
    split at h
    · rename_i fn hfn
      split at h
      · rename_i c hb
        obtain ⟨hgd, h⟩ := bif_some h
        simp only [Bool.and_eq_true] at hgd
        obtain ⟨⟨hgd, hsz⟩, hres⟩ := hgd
        have hsz := Nat.le_of_ble_eq_true hsz
        have hres := Nat.eq_of_beq_eq_true hres
        have key : ∃ e0 T1 ys1 pe, evI P ext fn.ntmps ⟨nt, T, ps, asg, body⟩ fu c (argsT 0 (av ++ #[Value.chan (some 0)] ++ bv).toList .nil) s [av.size] none = some (e0, T1, s', ys1, pe) ∧ (e0 = .normal ∨ e0 = .ret) ∧ e = (match pe with | none => .normal | some e => e) ∧ (∀ e1, pe = some e1 → isN e1 = false) := by
          split at h
          · cases h
          · rename_i e0 T1 s1 ys1 hne h1
            injection h with h; injection h with q1 q2; subst q1 q2
            refine ⟨e0, T1, ys1, none, h1, ?_, rfl, fun e1 he => by cases he⟩
            cases e0 with
            | normal => exact .inl rfl
            | ret => exact .inr rfl
            | exit i => exact (hne i rfl).elim
          · rename_i e0 T1 s1 ys1 e1 hne h1
            obtain ⟨hn1, h⟩ := bif_none h
            injection h with h; injection h with q1 q2; subst q1 q2
            refine ⟨e0, T1, ys1, some e1, h1, ?_, rfl, fun e2 he => by injection he with he; rw [← he]; exact hn1⟩
            cases e0 with
            | normal => exact .inl rfl
            | ret => exact .inr rfl
            | exit i => exact (hne i rfl).elim
          · cases h
        obtain ⟨e0, T1, ys1, pe, h1, he0, hepe, hnn⟩ := key
        have hgv : ∃ av' bv', evalG a g = .func (.func gf) av' bv' ∧ VRs ι av av' ∧ VRs ι bv bv' := by
          have hv := hg ▸ hT.opnd g
          generalize evalG a g = x' at hv
          cases hv with
          | atom h =>
            simp [Ev.atom] at h
            obtain ⟨rfl, rfl⟩ := h
            exact ⟨_, _, rfl, ⟨rfl, fun i x y hx => by simp at hx⟩, ⟨rfl, fun i x y hx => by simp at hx⟩⟩
          | func hs ht h1 h2 => exact ⟨_, _, rfl, ⟨hs, h1⟩, ⟨ht, h2⟩⟩
        obtain ⟨av', bv', hgv, hav, hbv⟩ := hgv
        have hgv : a.eval g = .func (.func gf) av' bv' := by
          cases g with
          | const v => simp only [goodOp] at hgd; simpa [evalG, hgd, Act.eval] using hgv
          | _ => exact hgv
        refine wpIn_rangeFunc ?_
        intro fn0 _
        obtain ⟨R, hRd⟩ : ∃ R : Loop, R = { state := .ready, pending := none, fn := fn0, tmps := a.tmps, params := ps, assign := asg, body, defers := w.heap.size } := ⟨_, rfl⟩
        obtain ⟨W1, hW1⟩ : ∃ W1, (w.alloc (.deferred (some []))).alloc (.loop R) = W1 := ⟨_, rfl⟩
        have hL1 : W1.heap[w.heap.size + 1]? = some (.loop (Rp R none)) := by
          rw [show Rp R none = R by rw [hRd]; rfl]
          rw [← hW1]; have := World.alloc_heap_new (w.alloc (.deferred (some []))) (.loop R); rwa [World.size_alloc] at this
        have hK1 : W1.heap[w.heap.size]? = some (.deferred (some [])) := by
          rw [← hW1]; exact (Below.heap_alloc _ _ _ (by simp)).trans (World.alloc_heap_new w _)
        have hb1 : Below w.heap.size w W1 := by
          rw [← hW1]; exact ((Below.refl _ w).alloc (Nat.le_refl _) _).alloc (by simp) _
        have I1 : IS P ι s.h.get w s.n nt T a (w.heap.size + 1) w.heap.size (Rp R none) ι s W1 :=
          ⟨Step.below he hb1, Dom.refl, Nat.le_refl _, ⟨hT.1, rfl, hT.2.2⟩, hL1, hK1, by omega, by omega, fun k b hk => by have := he.lt k b hk; omega⟩
        have hargs : VRs ι (av ++ #[Value.chan (some 0)] ++ bv) (av' ++ #[Value.func (.yield (w.heap.size + 1)) #[] #[]] ++ bv') :=
          append_VRs (append_VRs hav ⟨rfl, fun i x y hx hy => by
            cases i with
            | zero => simp at hx hy; rw [← hx, ← hy]; exact .glob rfl
            | succ i => simp at hx⟩) hbv
        refine ⟨w.heap.size + 1, [{ target := .collected w.heap.size, args := #[] }], W1, { target := .fn (.func gf) bv', args := av' ++ #[.func (.yield (w.heap.size + 1)) #[] #[]] }, W1, gf,
          av' ++ #[.func (.yield (w.heap.size + 1)) #[] #[]] ++ bv', W1, ?_, ?_, fun _ _ => trivial, ?_, fun e => (by cases e), ?_⟩
        · rw [← hW1, hRd]; exact run_enterLoop_outer _ _ _ _ _
        · simp only [resolve, hgv]
          simp [go_sem, Deferred.ofValue]
        · simp [invoke, callFunc_enter hfn (F.go gf fn hfn) hb]
        · refine callsIn_of_wp_marks hfn hb trivial ?_
          refine wpIn_mono ((i_sound (R := R) (cx := ⟨nt, T, ps, asg, body⟩) (ac := a) F ⟨by rw [hRd], by rw [hRd], by rw [hRd], by rw [hRd]⟩ fu).1 c _ s _ none e0 T1 s' ys1 pe h1 ho ι _ W1 (args_TR hargs hsz) ?_ I1 hf) ?_
          · intro t ht
            rw [List.mem_singleton] at ht
            subst ht
            have hs := hav.1
            rw [Array.getD_eq_getD_getElem?, Array.getElem?_append_left (by simp; omega), Array.getElem?_append_left (by simp; omega), Array.getElem?_append_right (by omega)]
            simp [hs]
          · rintro ex a2 w2 ⟨rfl, ι2, g1, _, I2, g4⟩
            have hr := run_endLoop (P := P) I2.lo (by cases pe <;> simp [Rp])
            have I3 := I2.put { Rp R pe with state := .exhausted }
            have hr2 : ∃ v', (results fn a2.tmps).run P w2 = .ok v' w2 := by
              have hnil : fn.results.toList = [] := List.eq_nil_of_length_eq_zero hres
              obtain ⟨v', q, _⟩ := results_run (fn := fn) (v := .tuple #[]) g1 I2.st.emb (by rw [hnil]; rfl)
              exact ⟨v', q⟩
            obtain ⟨v', hrun⟩ := hr2
            have fin : LeavesInM (Fr none) (0 - 1) P fn a2.tmps (rangePost (Fr none) 0 P (w.heap.size + 1) (PostR b P ι s w nt e T s' true) { a with defers := [{ target := .collected w.heap.size, args := #[] }] ++ a.defers }) a2.defers .returning w2 := by
              rw [g1.2.1]
              refine ⟨v', hrun, _, _, hr, ?_⟩
              have post : PostR b P ι s w nt e T s' true e.out { a with defers := [{ target := .collected w.heap.size, args := #[] }] ++ a.defers } (w2.putObj (w.heap.size + 1) (.loop { Rp R pe with state := .exhausted })) := by
                refine ⟨rfl, ι2, _, I3.st, I3.dm, ⟨I3.tr.1, rfl, I3.tr.2.2⟩, w.heap.size, hbw, ?_, I3.de, fun k b hk => (I3.nl k b hk).2⟩
                rw [hT.2.1]; rfl
              cases pe with
              | none => rw [hepe] at post ⊢; exact post
              | some e1 =>
                cases e1 with
                | normal => exact absurd (hnn _ rfl) (by simp [isN])
                | ret => rw [hepe] at post ⊢; exact wpIn_ret post
                | exit i => rw [hepe] at post ⊢; exact wpIn_exit post
            rcases he0 with rfl | rfl
            · exact fin
            · exact fin
      · cases h
    · cases h
  · cases h
end
end Ev
end Go.Proofs.YtldlnclkdgfahaaGreat
